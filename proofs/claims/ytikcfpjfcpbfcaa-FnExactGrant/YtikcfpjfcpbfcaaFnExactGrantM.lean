/-
What is proved: at every net, book and permit impl.Grant answers as the specification's Grant and leaves them as they were; its answer is new memory; no condition.
-/
import Derived.Test.YtikcfpjfcpbfcaaGrIz
import Derived.Test.YtikcfpjfcpbfcaaGrSz
import Derived.Test.YtikcfpjfcpbfcaaQhE
import Derived.Test.YtikcfpjfcpbfcaaI64R2
namespace Go.Proofs.Ytikcfpjfcpbfcaa
set_option maxRecDepth 40000
open Go.ChangeShapes Go.WideShapes Go.ChangeAt Go.RowKit
set_option linter.unusedVariables false
set_option linter.unusedSimpArgs false

theorem suK_le {K : Nat → Nat} {b : Nat} : ∀ n, (∀ i, i < n → K i ≤ b) → suK K n ≤ n * b := by
  intro n
  induction n with
  | zero => intro _; simp [suK]
  | succ n ih =>
    intro h
    have h1 := ih (fun i hi => h i (by omega))
    have h2 := h n (by omega)
    have e : suK K (n + 1) = suK K n + K n := rfl
    rw [e, Nat.succ_mul]
    omega
theorem ref_zero {p : Int} {n : Nat} {D : Nat → Int × Int} {m : Nat} {S : Nat → Int} {nb : Nat} {X Y : Nat → Int} {id pl : Int} {k : Nat} {v : Nat → Int} (h : refV p n D m S nb X Y id pl k v = 0) : fmB p n id pl k v = true ∧ hasB X nb id = false := by
  unfold refV at h
  split at h
  · rename_i h1
    refine ⟨h1, ?_⟩
    split at h
    · omega
    · rename_i h2; simpa using h2
  · omega
theorem gr_ex (p : Int) (n : Nat) (D : Nat → Int × Int) (m : Nat) (S : Nat → Int) (nb : Nat) (X Y : Nat → Int) (K : Nat → Nat) (V : Nat → Nat → Int) (id pl : Int) (kp : Nat) (vp : Nat → Int) (hn : (n : Int) ≤ 1048576) (hm : (m : Int) ≤ 1048576) (hs : (nb : Int) + (suK K nb : Int) ≤ 1048576) (hkp : (kp : Int) ≤ 1048576) : ∃ (nr : Nat) (X' Y' : Nat → Int) (K' : Nat → Nat) (V' : Nat → Nat → Int) (cd : Int), (nr : Int) + (suK K' nr : Int) ≤ 1048576 ∧
    (∀ (s t bs vs : Option Addr) (w : World), RowDuct w s n D → RowI w t m S → RowPer w bs nb X Y K V → RowI w vs kp vp → Calls Try.prog 12 #[.agg #[.int .i64 p, .slice s n n, .slice t m m], .agg #[.slice bs nb nb], .agg #[.int .i64 id, .int .i64 pl, .slice vs kp kp]] w fun e w' => ∃ (s : Option Addr) (c : Nat) (S : Nat → Prop), e = .returned (.tuple #[.agg #[.slice s nr c], .int .i64 cd]) ∧ (∀ k, S k → w.heap.size ≤ k ∧ k < w'.heap.size) ∧ BookR S w' s nr X' Y' K' V' ∧ Below w.heap.size w w') ∧
    (∀ (s t bs vs : Option Addr) (w : World), RowDuct w s n D → RowI w t m S → RowPer w bs nb X Y K V → RowI w vs kp vp → Calls Try.prog 16 #[.agg #[.int .i64 p, .slice s n n, .slice t m m], .agg #[.slice bs nb nb], .agg #[.int .i64 id, .int .i64 pl, .slice vs kp kp]] w fun e w' => ∃ (s : Option Addr) (c : Nat) (S : Nat → Prop), e = .returned (.tuple #[.agg #[.slice s nr c], .int .i64 cd]) ∧ (∀ k, S k → w.heap.size ≤ k ∧ k < w'.heap.size) ∧ BookR S w' s nr X' Y' K' V' ∧ Below w.heap.size w w') := by
  have hK : ∀ i, i < nb → (K i : Int) ≤ 1048576 := Per_each hs
  have hb : (nb : Int) ≤ 1048576 := by omega
  have both : ∀ q, (bokB p n D m S nb X Y K V = true → refV p n D m S nb X Y id pl kp vp = 0 → InsAt nb X id q) → (∀ (s t bs vs : Option Addr) (w : World), RowDuct w s n D → RowI w t m S → RowPer w bs nb X Y K V → RowI w vs kp vp → Calls Try.prog 12 #[.agg #[.int .i64 p, .slice s n n, .slice t m m], .agg #[.slice bs nb nb], .agg #[.int .i64 id, .int .i64 pl, .slice vs kp kp]] w fun e w' => GrAns p n D m S nb X Y K V id pl kp vp q w e w') ∧ (∀ (s t bs vs : Option Addr) (w : World), RowDuct w s n D → RowI w t m S → RowPer w bs nb X Y K V → RowI w vs kp vp → Calls Try.prog 16 #[.agg #[.int .i64 p, .slice s n n, .slice t m m], .agg #[.slice bs nb nb], .agg #[.int .i64 id, .int .i64 pl, .slice vs kp kp]] w fun e w' => GrAns p n D m S nb X Y K V id pl kp vp q w e w') := fun q hq =>
    ⟨fun s t bs vs w h1 h2 h3 h4 => specGrant_any p s n n D t m m S bs nb nb X Y K V id pl vs kp kp vp q w hn hm h1 h2 hb hK h3 hkp h4 hq, fun s t bs vs w h1 h2 h3 h4 => implGrant_any p s n n D t m m S bs nb nb X Y K V id pl vs kp kp vp q w hn hm h1 h2 hb (Nat.le_refl _) hK h3 hkp h4 hq⟩
  cases hok : bokB p n D m S nb X Y K V
  case false =>
    obtain ⟨b1, b2⟩ := both 0 (fun z => by rw [hok] at z; cases z)
    refine ⟨0, X, Y, K, V, 1, by simp [suK], fun s t bs vs w h1 h2 h3 h4 => (b1 s t bs vs w h1 h2 h3 h4).mono fun e w' h => ?_, fun s t bs vs w h1 h2 h3 h4 => (b2 s t bs vs w h1 h2 h3 h4).mono fun e w' h => ?_⟩
    all_goals
      unfold GrAns at h
      rw [hok] at h
      exact h
  case true =>
    by_cases z : refV p n D m S nb X Y id pl kp vp = 0
    case pos =>
      obtain ⟨z1, z2⟩ := ref_zero z
      obtain ⟨q, hq⟩ := ins_ex nb X id (bok_rises hok) z2
      obtain ⟨b1, b2⟩ := both q (fun _ _ => hq)
      obtain ⟨n40, nb20, hin⟩ := bok_in hok
      obtain ⟨-, -, r1, r2⟩ := fm_yes z1
      have k40 := ris_len r1 r2 (by omega)
      have s1 := suK_le (K := K) (b := 40) nb (fun i hi => by have := (hin i hi).1; omega)
      have s2 := suK_inF K q kp nb hq.1
      refine ⟨nb + 1, (inF q id X), (inF q pl Y), (inF q kp K), (inF q vp V), 0, by rw [s2]; omega, fun s t bs vs w h1 h2 h3 h4 => (b1 s t bs vs w h1 h2 h3 h4).mono fun e w' h => ?_, fun s t bs vs w h1 h2 h3 h4 => (b2 s t bs vs w h1 h2 h3 h4).mono fun e w' h => ?_⟩
      all_goals
        unfold GrAns at h
        rw [if_pos hok, if_pos z] at h
        exact h
    case neg =>
      obtain ⟨b1, b2⟩ := both 0 (fun _ y => absurd y z)
      refine ⟨nb, X, Y, K, V, refV p n D m S nb X Y id pl kp vp, hs, fun s t bs vs w h1 h2 h3 h4 => (b1 s t bs vs w h1 h2 h3 h4).mono fun e w' h => ?_, fun s t bs vs w h1 h2 h3 h4 => (b2 s t bs vs w h1 h2 h3 h4).mono fun e w' h => ?_⟩
      all_goals
        unfold GrAns at h
        rw [if_pos hok, if_neg z] at h
        exact h
def grantRes (c0 : World) (nr0_0 : Nat) (Xr0_0 : Nat → Int) (Yr0_0 : Nat → Int) (Kr0_0 : Nat → Nat) (Vr0_0 : Nat → Nat → Int) (ar1 : Int) (v0 : Value) (v1 : Value) (wx : World) : Prop := ∃ (P0 : Nat) (s'r0_0 : Option Addr) (c'r0_0 : Nat), v0 = .pointer (some ⟨P0, 0, none⟩) ∧ wx.cell? ⟨P0, 0, none⟩ = some (.slice s'r0_0 nr0_0 c'r0_0) ∧ P0 < wx.heap.size ∧ c0.heap.size ≤ P0 ∧ v1 = .int .i64 ar1 ∧ RowBook wx s'r0_0 nr0_0 Xr0_0 Yr0_0 Kr0_0 Vr0_0 ∧ Below c0.heap.size c0 wx
def ZA0 (p : Nat) (W : World) : Prop := p < W.heap.size ∧ (∀ o, W.frozen? ⟨p, o, none⟩ = false) ∧ W.cell? ⟨p, 0, none⟩ = some (.slice none 0 0)
theorem ZA0.new (W : World) : ZA0 W.heap.size (W.alloc (.cells #[.slice none 0 0] 36)) := ⟨by simp, fun o => by simp [go_sem], by simp [go_sem]⟩
theorem ZA0.at {p : Nat} {W W' : World} (hp : p < W.heap.size) (hf : ∀ o, W.frozen? ⟨p, o, none⟩ = false) (c0 : W.cell? ⟨p, 0, none⟩ = some (.slice none 0 0)) (hb : Below W.heap.size W W') : ZA0 p W' := ⟨Nat.lt_of_lt_of_le hp hb.size, fun o => (hb.frozen (p := ⟨p, o, none⟩) hp).trans (hf o), (hb.cell (p := ⟨p, 0, none⟩) hp).trans c0⟩
theorem ZA0.keep {p : Nat} {W W' : World} (h : ZA0 p W) (hb : Below W.heap.size W W') : ZA0 p W' := ⟨Nat.lt_of_lt_of_le h.1 hb.size, fun o => (hb.frozen (p := ⟨p, o, none⟩) h.1).trans (h.2.1 o), (hb.cell (p := ⟨p, 0, none⟩) h.1).trans h.2.2⟩
theorem hidQ {S : Nat → Prop} {m : Nat} {p : Nat → Prop} (h : ∀ k, S k → m ≤ k ∧ p k) : Hid (∀ k, S k → m ≤ k) := fun k hk => (h k hk).1
theorem keepArgs {W W' : World} {p0 p1 p2 : Nat} {v0_0 v0_1 v0_2 v1_0 v2_0 v2_1 v2_2 : Value} (h0_0 : W.cell? ⟨p0, 0, none⟩ = some v0_0) (h0_1 : W.cell? ⟨p0, 1, none⟩ = some v0_1) (h0_2 : W.cell? ⟨p0, 2, none⟩ = some v0_2) (h1_0 : W.cell? ⟨p1, 0, none⟩ = some v1_0) (h2_0 : W.cell? ⟨p2, 0, none⟩ = some v2_0) (h2_1 : W.cell? ⟨p2, 1, none⟩ = some v2_1) (h2_2 : W.cell? ⟨p2, 2, none⟩ = some v2_2) (z0 : p0 < W.heap.size) (z1 : p1 < W.heap.size) (z2 : p2 < W.heap.size) (hb : Below W.heap.size W W') : W'.cell? ⟨p0, 0, none⟩ = some v0_0 ∧ W'.cell? ⟨p0, 1, none⟩ = some v0_1 ∧ W'.cell? ⟨p0, 2, none⟩ = some v0_2 ∧ W'.cell? ⟨p1, 0, none⟩ = some v1_0 ∧ W'.cell? ⟨p2, 0, none⟩ = some v2_0 ∧ W'.cell? ⟨p2, 1, none⟩ = some v2_1 ∧ W'.cell? ⟨p2, 2, none⟩ = some v2_2 := ⟨(hb.cell (p := ⟨p0, 0, none⟩) z0).trans h0_0, (hb.cell (p := ⟨p0, 1, none⟩) z0).trans h0_1, (hb.cell (p := ⟨p0, 2, none⟩) z0).trans h0_2, (hb.cell (p := ⟨p1, 0, none⟩) z1).trans h1_0, (hb.cell (p := ⟨p2, 0, none⟩) z2).trans h2_0, (hb.cell (p := ⟨p2, 1, none⟩) z2).trans h2_1, (hb.cell (p := ⟨p2, 2, none⟩) z2).trans h2_2⟩
theorem keepLaw3_3 {W W' : World} {p r : Nat} {va0 va1 va2 vx0 vx1 vx2 : Value} (ha0 : W.cell? ⟨p, 0, none⟩ = some va0) (ha1 : W.cell? ⟨p, 1, none⟩ = some va1) (ha2 : W.cell? ⟨p, 2, none⟩ = some va2) (hx0 : W.cell? ⟨r, 0, none⟩ = some vx0) (hx1 : W.cell? ⟨r, 1, none⟩ = some vx1) (hx2 : W.cell? ⟨r, 2, none⟩ = some vx2) (zp : p < W.heap.size) (zr : r < W.heap.size) (hb : Below W.heap.size W W') : W'.cell? ⟨p, 0, none⟩ = some va0 ∧ W'.cell? ⟨p, 1, none⟩ = some va1 ∧ W'.cell? ⟨p, 2, none⟩ = some va2 ∧ W'.cell? ⟨r, 0, none⟩ = some vx0 ∧ W'.cell? ⟨r, 1, none⟩ = some vx1 ∧ W'.cell? ⟨r, 2, none⟩ = some vx2 :=
  ⟨(hb.cell (p := ⟨p, 0, none⟩) zp).trans ha0, (hb.cell (p := ⟨p, 1, none⟩) zp).trans ha1, (hb.cell (p := ⟨p, 2, none⟩) zp).trans ha2, (hb.cell (p := ⟨r, 0, none⟩) zr).trans hx0, (hb.cell (p := ⟨r, 1, none⟩) zr).trans hx1, (hb.cell (p := ⟨r, 2, none⟩) zr).trans hx2⟩
theorem keepLaw1_1 {W W' : World} {p r : Nat} {va0 vx0 : Value} (ha0 : W.cell? ⟨p, 0, none⟩ = some va0) (hx0 : W.cell? ⟨r, 0, none⟩ = some vx0) (zp : p < W.heap.size) (zr : r < W.heap.size) (hb : Below W.heap.size W W') : W'.cell? ⟨p, 0, none⟩ = some va0 ∧ W'.cell? ⟨r, 0, none⟩ = some vx0 :=
  ⟨(hb.cell (p := ⟨p, 0, none⟩) zp).trans ha0, (hb.cell (p := ⟨r, 0, none⟩) zr).trans hx0⟩
set_option maxRecDepth 20000 in
set_option maxHeartbeats 8000000 in
theorem grant_near (w : World) (a0_0 : Int) (n0_1 : Nat) (V0_1 : Nat → Int × Int) (n0_2 : Nat) (V0_2 : Nat → Int) (s0_1 : Option Addr) (c0_1 : Nat) (s0_2 : Option Addr) (c0_2 : Nat) (hn0_1 : (n0_1 : Int) ≤ 1048576) (hn0_2 : (n0_2 : Int) ≤ 1048576) (HR0 : Hid (RowNet w s0_1 n0_1 V0_1 s0_2 n0_2 V0_2)) (n1_0 : Nat) (X1_0 : Nat → Int) (Y1_0 : Nat → Int) (K1_0 : Nat → Nat) (V1_0 : Nat → Nat → Int) (s1_0 : Option Addr) (c1_0 : Nat) (hn1_0 : ((n1_0 : Int) + (suK K1_0 n1_0 : Int)) ≤ 1048576) (HR1 : Hid (RowBook w s1_0 n1_0 X1_0 Y1_0 K1_0 V1_0)) (a2_0 : Int) (a2_1 : Int) (n2_2 : Nat) (V2_2 : Nat → Int) (s2_2 : Option Addr) (c2_2 : Nat) (hn2_2 : (n2_2 : Int) ≤ 1048576) (HR2 : Hid (RowPrm w s2_2 n2_2 V2_2)) (gn0_1 : (n0_1 : Int) ≤ 1048576) (gn0_2 : (n0_2 : Int) ≤ 1048576 - n0_1) (gn1_0 : ((n1_0 : Int) + (suK K1_0 n1_0 : Int)) ≤ 1048576 - n0_1 - n0_2) (gn2_2 : (n2_2 : Int) ≤ 1048576 - n0_1 - n0_2 - ((n1_0 : Int) + (suK K1_0 n1_0 : Int))) (nr0_0 : Nat) (Xr0_0 : Nat → Int) (Yr0_0 : Nat → Int) (Kr0_0 : Nat → Nat) (Vr0_0 : Nat → Nat → Int) (hnr0_0 : ((nr0_0 : Int) + (suK Kr0_0 nr0_0 : Int)) ≤ 1048576) (ar1 : Int)
    (H1 : Hid (∀ (s0_1 : Option Addr) (s0_2 : Option Addr) (s1_0 : Option Addr) (s2_2 : Option Addr) w, RowNet w s0_1 n0_1 V0_1 s0_2 n0_2 V0_2 → RowBook w s1_0 n1_0 X1_0 Y1_0 K1_0 V1_0 → RowPrm w s2_2 n2_2 V2_2 → Calls Try.prog 12 #[.agg #[.int .i64 a0_0, .slice s0_1 n0_1 n0_1, .slice s0_2 n0_2 n0_2], .agg #[.slice s1_0 n1_0 n1_0], .agg #[.int .i64 a2_0, .int .i64 a2_1, .slice s2_2 n2_2 n2_2]] w fun e w' => ∃ (s'r0_0 : Option Addr) (c'r0_0 : Nat) (S0 : Nat → Prop), e = .returned (.tuple #[.agg #[.slice s'r0_0 nr0_0 c'r0_0], .int .i64 ar1]) ∧ (∀ k, S0 k → w.heap.size ≤ k ∧ k < w'.heap.size) ∧ BookR S0 w' s'r0_0 nr0_0 Xr0_0 Yr0_0 Kr0_0 Vr0_0 ∧ Below w.heap.size w w'))
    (H2 : Hid (∀ (s0_1 : Option Addr) (s0_2 : Option Addr) (s1_0 : Option Addr) (s2_2 : Option Addr) w, RowNet w s0_1 n0_1 V0_1 s0_2 n0_2 V0_2 → RowBook w s1_0 n1_0 X1_0 Y1_0 K1_0 V1_0 → RowPrm w s2_2 n2_2 V2_2 → Calls Try.prog 16 #[.agg #[.int .i64 a0_0, .slice s0_1 n0_1 n0_1, .slice s0_2 n0_2 n0_2], .agg #[.slice s1_0 n1_0 n1_0], .agg #[.int .i64 a2_0, .int .i64 a2_1, .slice s2_2 n2_2 n2_2]] w fun e w' => ∃ (s'r0_0 : Option Addr) (c'r0_0 : Nat) (S0 : Nat → Prop), e = .returned (.tuple #[.agg #[.slice s'r0_0 nr0_0 c'r0_0], .int .i64 ar1]) ∧ (∀ k, S0 k → w.heap.size ≤ k ∧ k < w'.heap.size) ∧ BookR S0 w' s'r0_0 nr0_0 Xr0_0 Yr0_0 Kr0_0 Vr0_0 ∧ Below w.heap.size w w')) :
    Calls Try.prog 3 #[.agg #[.int .i64 a0_0, .slice s0_1 n0_1 c0_1, .slice s0_2 n0_2 c0_2], .agg #[.slice s1_0 n1_0 c1_0], .agg #[.int .i64 a2_0, .int .i64 a2_1, .slice s2_2 n2_2 c2_2]] w fun e w' => e = .returned (.bool true) ∧ Below w.heap.size w w' := by
  have sto := store_slT
  go_enter Try.func3, Try.ntmps3
  go_wp2_with fail
  refine (szNet_on a0_0 n0_1 V0_1 n0_2 V0_2 s0_1 c0_1 s0_2 c0_2 _ _ (by omega) (by omega) (by omega) (by omega)).mono ?_
  rintro e w1 ⟨rfl, hh⟩
  have hb : Below w.heap.size w w1 := Below.trans (by repeat (first | with_reducible exact Below.refl _ _ | with_reducible refine Below.setCell ?_ (by first | omega | (simp; done) | (simp; omega)) _ | with_reducible refine bDrewN ?_ _ | with_reducible refine Below.drew ?_ | with_reducible refine Below.alloc ?_ (by first | omega | (simp; done) | (simp; omega)) _)) (hh.mono (by first | omega | (simp; done) | (simp; omega)))
  have lw1 : w.heap.size ≤ w1.heap.size := hb.size
  have ca00 : w1.cell? ⟨w.heap.size, 0, none⟩ = some (.int .i64 a0_0) := by rw [hh.cell (by first | omega | (simp; done) | (simp; omega))]; first | (simp; done) | (simp [go_sem]; done)
  have ca01 : w1.cell? ⟨w.heap.size, 1, none⟩ = some (.slice s0_1 n0_1 c0_1) := by rw [hh.cell (by first | omega | (simp; done) | (simp; omega))]; first | (simp; done) | (simp [go_sem]; done)
  have ca02 : w1.cell? ⟨w.heap.size, 2, none⟩ = some (.slice s0_2 n0_2 c0_2) := by rw [hh.cell (by first | omega | (simp; done) | (simp; omega))]; first | (simp; done) | (simp [go_sem]; done)
  have za0 : w.heap.size < w1.heap.size := by have := hh.size; simp at this; omega
  have ya0 : w.heap.size < w1.heap.size := za0
  have ca10 : w1.cell? ⟨w.heap.size + 1, 0, none⟩ = some (.slice s1_0 n1_0 c1_0) := by rw [hh.cell (by first | omega | (simp; done) | (simp; omega))]; first | (simp; done) | (simp [go_sem]; done)
  have za1 : w.heap.size + 1 < w1.heap.size := by have := hh.size; simp at this; omega
  have ya1 : w.heap.size + 1 < w1.heap.size := za1
  have ca20 : w1.cell? ⟨w.heap.size + 1 + 1, 0, none⟩ = some (.int .i64 a2_0) := by rw [hh.cell (by first | omega | (simp; done) | (simp; omega))]; first | (simp; done) | (simp [go_sem]; done)
  have ca21 : w1.cell? ⟨w.heap.size + 1 + 1, 1, none⟩ = some (.int .i64 a2_1) := by rw [hh.cell (by first | omega | (simp; done) | (simp; omega))]; first | (simp; done) | (simp [go_sem]; done)
  have ca22 : w1.cell? ⟨w.heap.size + 1 + 1, 2, none⟩ = some (.slice s2_2 n2_2 c2_2) := by rw [hh.cell (by first | omega | (simp; done) | (simp; omega))]; first | (simp; done) | (simp [go_sem]; done)
  have za2 : w.heap.size + 1 + 1 < w1.heap.size := by have := hh.size; simp at this; omega
  have ya2 : w.heap.size + 1 + 1 < w1.heap.size := za2
  have B0 : Below w.heap.size w w1 := hb
  clear hb hh
  go_wp2_with fail
  refine (szBook_on n1_0 X1_0 Y1_0 K1_0 V1_0 s1_0 c1_0 _ _ (by omega) (by omega) (by omega) (HR1.out.below B0)).mono ?_
  rintro e w2 ⟨rfl, hh⟩
  have hb : Below w1.heap.size w1 w2 := Below.trans (by repeat (first | with_reducible exact Below.refl _ _ | with_reducible refine Below.setCell ?_ (by first | omega | (simp; done) | (simp; omega)) _ | with_reducible refine bDrewN ?_ _ | with_reducible refine Below.drew ?_ | with_reducible refine Below.alloc ?_ (by first | omega | (simp; done) | (simp; omega)) _)) (hh.mono (by first | omega | (simp; done) | (simp; omega)))
  have lw2 : w1.heap.size ≤ w2.heap.size := hb.size
  replace ca00 := (hb.cell (p := ⟨w.heap.size, 0, none⟩) za0).trans ca00
  replace ca01 := (hb.cell (p := ⟨w.heap.size, 1, none⟩) za0).trans ca01
  replace ca02 := (hb.cell (p := ⟨w.heap.size, 2, none⟩) za0).trans ca02
  replace za0 := Nat.lt_of_lt_of_le za0 hb.size
  replace ca10 := (hb.cell (p := ⟨w.heap.size + 1, 0, none⟩) za1).trans ca10
  replace za1 := Nat.lt_of_lt_of_le za1 hb.size
  replace ca20 := (hb.cell (p := ⟨w.heap.size + 1 + 1, 0, none⟩) za2).trans ca20
  replace ca21 := (hb.cell (p := ⟨w.heap.size + 1 + 1, 1, none⟩) za2).trans ca21
  replace ca22 := (hb.cell (p := ⟨w.heap.size + 1 + 1, 2, none⟩) za2).trans ca22
  replace za2 := Nat.lt_of_lt_of_le za2 hb.size
  replace B0 : Below w.heap.size w w2 := B0.trans (hb.mono B0.size)
  clear hb hh
  go_wp2_with fail
  refine (szPrm_on a2_0 a2_1 n2_2 V2_2 s2_2 c2_2 _ _ (by omega) (by omega) (by omega)).mono ?_
  rintro e w3 ⟨rfl, hh⟩
  have hb : Below w2.heap.size w2 w3 := Below.trans (by repeat (first | with_reducible exact Below.refl _ _ | with_reducible refine Below.setCell ?_ (by first | omega | (simp; done) | (simp; omega)) _ | with_reducible refine bDrewN ?_ _ | with_reducible refine Below.drew ?_ | with_reducible refine Below.alloc ?_ (by first | omega | (simp; done) | (simp; omega)) _)) (hh.mono (by first | omega | (simp; done) | (simp; omega)))
  have lw3 : w2.heap.size ≤ w3.heap.size := hb.size
  replace ca00 := (hb.cell (p := ⟨w.heap.size, 0, none⟩) za0).trans ca00
  replace ca01 := (hb.cell (p := ⟨w.heap.size, 1, none⟩) za0).trans ca01
  replace ca02 := (hb.cell (p := ⟨w.heap.size, 2, none⟩) za0).trans ca02
  replace za0 := Nat.lt_of_lt_of_le za0 hb.size
  replace ca10 := (hb.cell (p := ⟨w.heap.size + 1, 0, none⟩) za1).trans ca10
  replace za1 := Nat.lt_of_lt_of_le za1 hb.size
  replace ca20 := (hb.cell (p := ⟨w.heap.size + 1 + 1, 0, none⟩) za2).trans ca20
  replace ca21 := (hb.cell (p := ⟨w.heap.size + 1 + 1, 1, none⟩) za2).trans ca21
  replace ca22 := (hb.cell (p := ⟨w.heap.size + 1 + 1, 2, none⟩) za2).trans ca22
  replace za2 := Nat.lt_of_lt_of_le za2 hb.size
  replace B0 : Below w.heap.size w w3 := B0.trans (hb.mono B0.size)
  clear hb hh
  go_upto_region 11 with fail
  have HB : Hid (Below w.heap.size w w3) := B0
  go_cut [8, 9] (fun y0 y1 wx => grantRes w3 nr0_0 Xr0_0 Yr0_0 Kr0_0 Vr0_0 ar1 y0 y1 wx)
  case first =>
    go_region_held3 (fun w' => w'.cell? ⟨w.heap.size, 0, none⟩ = some (.int .i64 a0_0) ∧ w'.cell? ⟨w.heap.size, 1, none⟩ = some (.slice s0_1 n0_1 c0_1) ∧ w'.cell? ⟨w.heap.size, 2, none⟩ = some (.slice s0_2 n0_2 c0_2) ∧ w'.cell? ⟨w.heap.size + 1, 0, none⟩ = some (.slice s1_0 n1_0 c1_0) ∧ w'.cell? ⟨w.heap.size + 1 + 1, 0, none⟩ = some (.int .i64 a2_0) ∧ w'.cell? ⟨w.heap.size + 1 + 1, 1, none⟩ = some (.int .i64 a2_1) ∧ w'.cell? ⟨w.heap.size + 1 + 1, 2, none⟩ = some (.slice s2_2 n2_2 c2_2)) (first | with_reducible exact ⟨ca00, ca01, ca02, ca10, ca20, ca21, ca22⟩ | (refine keepArgs ca00 ca01 ca02 ca10 ca20 ca21 ca22 za0 za1 za2 ?_; exact (by repeat (first | with_reducible exact Below.refl _ _ | with_reducible exact B9 | with_reducible exact B72 | with_reducible exact B71 | with_reducible exact B70 | with_reducible refine Below.setCell ?_ (by first | omega | (simp; done) | (simp; omega)) _ | with_reducible refine bDrewN ?_ _ | with_reducible refine Below.drew ?_ | with_reducible refine Below.alloc ?_ (by first | omega | (simp; done) | (simp; omega)) _)))) (first
      | (go_at_call 12; refine (H1.out st0_1 st0_2 st1_0 st2_2 _ (PY2_0.out.below (by repeat (first | with_reducible exact Below.refl _ _ | with_reducible refine Below.setCell ?_ (by first | omega | (simp; done) | (simp; omega)) _ | with_reducible refine bDrewN ?_ _ | with_reducible refine Below.drew ?_ | with_reducible refine Below.alloc ?_ (by first | omega | (simp; done) | (simp; omega)) _))) (PY2_1.out.below (by repeat (first | with_reducible exact Below.refl _ _ | with_reducible refine Below.setCell ?_ (by first | omega | (simp; done) | (simp; omega)) _ | with_reducible refine bDrewN ?_ _ | with_reducible refine Below.drew ?_ | with_reducible refine Below.alloc ?_ (by first | omega | (simp; done) | (simp; omega)) _))) (PY2_2.out.below (by repeat (first | with_reducible exact Below.refl _ _ | with_reducible refine Below.setCell ?_ (by first | omega | (simp; done) | (simp; omega)) _ | with_reducible refine bDrewN ?_ _ | with_reducible refine Below.drew ?_ | with_reducible refine Below.alloc ?_ (by first | omega | (simp; done) | (simp; omega)) _)))).mono ?_; rintro e wy3 ⟨sWr0_0, cWr0_0, SW0, rfl, QR0, OR0, h9⟩; have hy3 : Below wy2.heap.size wy2 wy3 := Below.trans (by repeat (first | with_reducible exact Below.refl _ _ | with_reducible refine Below.setCell ?_ (by first | omega | (simp; done) | (simp; omega)) _ | with_reducible refine bDrewN ?_ _ | with_reducible refine Below.drew ?_ | with_reducible refine Below.alloc ?_ (by first | omega | (simp; done) | (simp; omega)) _)) (h9.mono (by first | omega | (simp; done) | (simp; omega))); have B9 : Below w3.heap.size w3 wy3 := B72.trans (hy3.mono B72.size); have s9 := B9.size; have sy3 := hy3.size; have HOR0 : Hid (BookR SW0 wy3 sWr0_0 nr0_0 Xr0_0 Yr0_0 Kr0_0 Vr0_0) := OR0; have HQR0 := hidQ QR0; (try have zq0 := Z0_2_0.1); (try have Z0_3_0 := ZA0.keep Z0_2_0 hy3); (try obtain ⟨zp0, zf0, zc0_0⟩ := Z0_3_0); (try have zq0 := Z0_2_1.1); (try have Z0_3_1 := ZA0.keep Z0_2_1 hy3); (try obtain ⟨zp0, zf0, zc0_0⟩ := Z0_3_1); (try have zq0 := Z0_2_2.1); (try have Z0_3_2 := ZA0.keep Z0_2_2 hy3); (try obtain ⟨zp0, zf0, zc0_0⟩ := Z0_3_2); (try have Z0_3_3 := ZA0.at (p := wy2.heap.size) (by first | (simp; done) | fail) (fun o => by first | (simp [go_sem]; done) | fail) (by first | (simp [go_sem]; done) | fail) h9); (try obtain ⟨zp0, zf0, zc0_0⟩ := Z0_3_3); clear h9 OR0 QR0)
      | (go_at_call 15; have hq2 := B71; refine (toPrm_r a2_0 a2_1 n2_2 V2_2 s2_2 c2_2 _ hn2_2 (HR2.out.below (HB.out.trans (Below.mono (by repeat (first | with_reducible exact Below.refl _ _ | with_reducible exact B71 | with_reducible refine Below.setCell ?_ (by first | omega | (simp; done) | (simp; omega)) _ | with_reducible refine bDrewN ?_ _ | with_reducible refine Below.drew ?_ | with_reducible refine Below.alloc ?_ (by first | omega | (simp; done) | (simp; omega)) _)) HB.out.size)))).mono ?_; rintro e wy2 ⟨st2_2, St2, rfl, -, OY2, h72⟩; have hy2 : Below wy1.heap.size wy1 wy2 := Below.trans (by repeat (first | with_reducible exact Below.refl _ _ | with_reducible refine Below.setCell ?_ (by first | omega | (simp; done) | (simp; omega)) _ | with_reducible refine bDrewN ?_ _ | with_reducible refine Below.drew ?_ | with_reducible refine Below.alloc ?_ (by first | omega | (simp; done) | (simp; omega)) _)) (h72.mono (by first | omega | (simp; done) | (simp; omega))); have B72 : Below w3.heap.size w3 wy2 := B71.trans (hy2.mono B71.size); have s72 := B72.size; have sy2 := hy2.size; have PY2_2 : Hid (RowPrm wy2 st2_2 n2_2 V2_2) := OY2.row; have PY2_0 : Hid (RowNet wy2 st0_1 n0_1 V0_1 st0_2 n0_2 V0_2) := PY1_0.out.below hy2; have PY2_1 : Hid (RowBook wy2 st1_0 n1_0 X1_0 Y1_0 K1_0 V1_0) := PY1_1.out.below hy2; (try have Z0_2_0 := ZA0.keep Z0_1_0 hy2); (try have Z0_2_1 := ZA0.keep Z0_1_1 hy2); (try have Z0_2_2 := ZA0.at (p := wy1.heap.size) (by first | (simp; done) | fail) (fun o => by first | (simp [go_sem]; done) | fail) (by first | (simp [go_sem]; done) | fail) h72); clear h72 OY2)
      | (go_at_call 14; have hq1 := B70; refine (toBook_r n1_0 X1_0 Y1_0 K1_0 V1_0 s1_0 c1_0 _ hn1_0 (HR1.out.below (HB.out.trans (Below.mono (by repeat (first | with_reducible exact Below.refl _ _ | with_reducible exact B70 | with_reducible refine Below.setCell ?_ (by first | omega | (simp; done) | (simp; omega)) _ | with_reducible refine bDrewN ?_ _ | with_reducible refine Below.drew ?_ | with_reducible refine Below.alloc ?_ (by first | omega | (simp; done) | (simp; omega)) _)) HB.out.size)))).mono ?_; rintro e wy1 ⟨st1_0, St1, rfl, -, OY1, h71⟩; have hy1 : Below wy0.heap.size wy0 wy1 := Below.trans (by repeat (first | with_reducible exact Below.refl _ _ | with_reducible refine Below.setCell ?_ (by first | omega | (simp; done) | (simp; omega)) _ | with_reducible refine bDrewN ?_ _ | with_reducible refine Below.drew ?_ | with_reducible refine Below.alloc ?_ (by first | omega | (simp; done) | (simp; omega)) _)) (h71.mono (by first | omega | (simp; done) | (simp; omega))); have B71 : Below w3.heap.size w3 wy1 := B70.trans (hy1.mono B70.size); have s71 := B71.size; have sy1 := hy1.size; have PY1_1 : Hid (RowBook wy1 st1_0 n1_0 X1_0 Y1_0 K1_0 V1_0) := OY1.row; have PY1_0 : Hid (RowNet wy1 st0_1 n0_1 V0_1 st0_2 n0_2 V0_2) := PY0_0.out.below hy1; (try have Z0_1_0 := ZA0.keep Z0_0_0 hy1); (try have Z0_1_1 := ZA0.at (p := wy0.heap.size) (by first | (simp; done) | fail) (fun o => by first | (simp [go_sem]; done) | fail) (by first | (simp [go_sem]; done) | fail) h71); clear h71 OY1)
      | (go_at_call 13; refine (toNet_r a0_0 n0_1 V0_1 n0_2 V0_2 s0_1 c0_1 s0_2 c0_2 _ hn0_1 hn0_2 (HR0.out.below (HB.out.trans (Below.mono (by repeat (first | with_reducible exact Below.refl _ _ | with_reducible refine Below.setCell ?_ (by first | omega | (simp; done) | (simp; omega)) _ | with_reducible refine bDrewN ?_ _ | with_reducible refine Below.drew ?_ | with_reducible refine Below.alloc ?_ (by first | omega | (simp; done) | (simp; omega)) _)) HB.out.size)))).mono ?_; rintro e wy0 ⟨st0_1, st0_2, St0, rfl, -, OY0, h70⟩; have hy0 : Below w3.heap.size w3 wy0 := Below.trans (by repeat (first | with_reducible exact Below.refl _ _ | with_reducible refine Below.setCell ?_ (by first | omega | (simp; done) | (simp; omega)) _ | with_reducible refine bDrewN ?_ _ | with_reducible refine Below.drew ?_ | with_reducible refine Below.alloc ?_ (by first | omega | (simp; done) | (simp; omega)) _)) (h70.mono (by first | omega | (simp; done) | (simp; omega))); have B70 : Below w3.heap.size w3 wy0 := hy0; have s70 := B70.size; have sy0 := hy0.size; have PY0_0 : Hid (RowNet wy0 st0_1 n0_1 V0_1 st0_2 n0_2 V0_2) := OY0.row; (try have Z0_0_0 := ZA0.at (p := w3.heap.size) (by first | (simp; done) | fail) (fun o => by first | (simp [go_sem]; done) | fail) (by first | (simp [go_sem]; done) | fail) h70); clear h70 OY0))
    all_goals
      go_wp2_with fail
      go_meet
      refine ⟨_, sWr0_0, cWr0_0, rfl, ?_, ?_, ?_, rfl, ?_, ?_⟩
      · first | (simp [go_sem, zc0_0]; done) | (simp [go_sem]; done)
      · first | (simp; done) | (simp; omega) | omega
      · omega
      · first | exact HOR0.out.row | exact (HOR0.out.below (below0 _ _)).row | exact (HOR0.out.keep (by simp) (fun k hk hl => set_block hl (by have := HQR0.out k hk; first | omega | (simp at this; omega)))).row
      · exact (by repeat (first | with_reducible exact Below.refl _ _ | with_reducible exact B9 | with_reducible refine Below.setCell ?_ (by first | omega | (simp; done) | (simp; omega)) _ | with_reducible refine bDrewN ?_ _ | with_reducible refine Below.drew ?_ | with_reducible refine Below.alloc ?_ (by first | omega | (simp; done) | (simp; omega)) _))
  obtain ⟨PW0, sWr0_0, cWr0_0, rfl, cw00, zw0, loW0, rfl, RW0, hb⟩ := hcut
  rename World => w4
  have lw4 : w3.heap.size ≤ w4.heap.size := hb.size
  have yw0 := zw0
  replace RW0 : Hid (RowBook w4 sWr0_0 nr0_0 Xr0_0 Yr0_0 Kr0_0 Vr0_0) := RW0
  replace ca00 := (hb.cell (p := ⟨w.heap.size, 0, none⟩) za0).trans ca00
  replace ca01 := (hb.cell (p := ⟨w.heap.size, 1, none⟩) za0).trans ca01
  replace ca02 := (hb.cell (p := ⟨w.heap.size, 2, none⟩) za0).trans ca02
  replace za0 := Nat.lt_of_lt_of_le za0 hb.size
  replace ca10 := (hb.cell (p := ⟨w.heap.size + 1, 0, none⟩) za1).trans ca10
  replace za1 := Nat.lt_of_lt_of_le za1 hb.size
  replace ca20 := (hb.cell (p := ⟨w.heap.size + 1 + 1, 0, none⟩) za2).trans ca20
  replace ca21 := (hb.cell (p := ⟨w.heap.size + 1 + 1, 1, none⟩) za2).trans ca21
  replace ca22 := (hb.cell (p := ⟨w.heap.size + 1 + 1, 2, none⟩) za2).trans ca22
  replace za2 := Nat.lt_of_lt_of_le za2 hb.size
  replace B0 : Below w.heap.size w w4 := B0.trans (hb.mono B0.size)
  clear hb HB
  have Bs : Below w4.heap.size w4 w4 := Below.refl _ _
  go_wp2_with fail
  refine (toNet_r a0_0 n0_1 V0_1 n0_2 V0_2 s0_1 c0_1 s0_2 c0_2 _ hn0_1 hn0_2 (HR0.out.below B0)).mono ?_
  rintro e w5 ⟨sx0_1, sx0_2, Sx0, rfl, Q, O, hh⟩
  have hb : Below w4.heap.size w4 w5 := Below.trans (by repeat (first | with_reducible exact Below.refl _ _ | with_reducible refine Below.setCell ?_ (by first | omega | (simp; done) | (simp; omega)) _ | with_reducible refine bDrewN ?_ _ | with_reducible refine Below.drew ?_ | with_reducible refine Below.alloc ?_ (by first | omega | (simp; done) | (simp; omega)) _)) (hh.mono (by first | omega | (simp; done) | (simp; omega)))
  have lw5 : w4.heap.size ≤ w5.heap.size := hb.size
  replace ca00 := (hb.cell (p := ⟨w.heap.size, 0, none⟩) za0).trans ca00
  replace ca01 := (hb.cell (p := ⟨w.heap.size, 1, none⟩) za0).trans ca01
  replace ca02 := (hb.cell (p := ⟨w.heap.size, 2, none⟩) za0).trans ca02
  replace za0 := Nat.lt_of_lt_of_le za0 hb.size
  replace ca10 := (hb.cell (p := ⟨w.heap.size + 1, 0, none⟩) za1).trans ca10
  replace za1 := Nat.lt_of_lt_of_le za1 hb.size
  replace ca20 := (hb.cell (p := ⟨w.heap.size + 1 + 1, 0, none⟩) za2).trans ca20
  replace ca21 := (hb.cell (p := ⟨w.heap.size + 1 + 1, 1, none⟩) za2).trans ca21
  replace ca22 := (hb.cell (p := ⟨w.heap.size + 1 + 1, 2, none⟩) za2).trans ca22
  replace za2 := Nat.lt_of_lt_of_le za2 hb.size
  replace cw00 := (hb.cell (p := ⟨PW0, 0, none⟩) zw0).trans cw00
  replace zw0 := Nat.lt_of_lt_of_le zw0 hb.size
  replace Bs : Below w4.heap.size w4 w5 := Bs.trans (hb.mono Bs.size)
  replace B0 : Below w.heap.size w w5 := B0.trans (hb.mono B0.size)
  clear hb hh
  have Qx0 : Hid (∀ k, Sx0 k → w4.heap.size ≤ k ∧ k < w5.heap.size) := (show ∀ k, Sx0 k → w4.heap.size ≤ k ∧ k < w5.heap.size from by simpa using Q)
  have Ox0 : Hid (NetR Sx0 w5 sx0_1 n0_1 V0_1 sx0_2 n0_2 V0_2) := O
  clear O Q
  go_wp2_with fail
  refine (toBook_r n1_0 X1_0 Y1_0 K1_0 V1_0 s1_0 c1_0 _ hn1_0 ((HR1.out.below B0).below (below0 _ _))).mono ?_
  rintro e w6 ⟨sx1_0, Sx1, rfl, Q, O, hh⟩
  have hb : Below w5.heap.size w5 w6 := Below.trans (by repeat (first | with_reducible exact Below.refl _ _ | with_reducible refine Below.setCell ?_ (by first | omega | (simp; done) | (simp; omega)) _ | with_reducible refine bDrewN ?_ _ | with_reducible refine Below.drew ?_ | with_reducible refine Below.alloc ?_ (by first | omega | (simp; done) | (simp; omega)) _)) (hh.mono (by first | omega | (simp; done) | (simp; omega)))
  have lw6 : w5.heap.size ≤ w6.heap.size := hb.size
  have cx00 : w6.cell? ⟨w5.heap.size, 0, none⟩ = some (.int .i64 a0_0) := by rw [hh.cell (by first | omega | (simp; done) | (simp; omega))]; first | (simp; done) | (simp [go_sem]; done)
  have cx01 : w6.cell? ⟨w5.heap.size, 1, none⟩ = some (.slice sx0_1 n0_1 n0_1) := by rw [hh.cell (by first | omega | (simp; done) | (simp; omega))]; first | (simp; done) | (simp [go_sem]; done)
  have cx02 : w6.cell? ⟨w5.heap.size, 2, none⟩ = some (.slice sx0_2 n0_2 n0_2) := by rw [hh.cell (by first | omega | (simp; done) | (simp; omega))]; first | (simp; done) | (simp [go_sem]; done)
  have zx0 : w5.heap.size < w6.heap.size := by have := hh.size; simp at this; omega
  have yx0 : w5.heap.size < w6.heap.size := zx0
  replace ca00 := (hb.cell (p := ⟨w.heap.size, 0, none⟩) za0).trans ca00
  replace ca01 := (hb.cell (p := ⟨w.heap.size, 1, none⟩) za0).trans ca01
  replace ca02 := (hb.cell (p := ⟨w.heap.size, 2, none⟩) za0).trans ca02
  replace za0 := Nat.lt_of_lt_of_le za0 hb.size
  replace ca10 := (hb.cell (p := ⟨w.heap.size + 1, 0, none⟩) za1).trans ca10
  replace za1 := Nat.lt_of_lt_of_le za1 hb.size
  replace ca20 := (hb.cell (p := ⟨w.heap.size + 1 + 1, 0, none⟩) za2).trans ca20
  replace ca21 := (hb.cell (p := ⟨w.heap.size + 1 + 1, 1, none⟩) za2).trans ca21
  replace ca22 := (hb.cell (p := ⟨w.heap.size + 1 + 1, 2, none⟩) za2).trans ca22
  replace za2 := Nat.lt_of_lt_of_le za2 hb.size
  replace cw00 := (hb.cell (p := ⟨PW0, 0, none⟩) zw0).trans cw00
  replace zw0 := Nat.lt_of_lt_of_le zw0 hb.size
  replace Ox0 : Hid (NetR Sx0 w6 sx0_1 n0_1 V0_1 sx0_2 n0_2 V0_2) := Ox0.out.below hb
  replace Bs : Below w4.heap.size w4 w6 := Bs.trans (hb.mono Bs.size)
  replace B0 : Below w.heap.size w w6 := B0.trans (hb.mono B0.size)
  clear hb hh
  have Qx1 : Hid (∀ k, Sx1 k → w5.heap.size + 1 ≤ k ∧ k < w6.heap.size) := (show ∀ k, Sx1 k → w5.heap.size + 1 ≤ k ∧ k < w6.heap.size from by simpa using Q)
  have Ox1 : Hid (BookR Sx1 w6 sx1_0 n1_0 X1_0 Y1_0 K1_0 V1_0) := O
  clear O Q
  go_wp2_with fail
  refine (toPrm_r a2_0 a2_1 n2_2 V2_2 s2_2 c2_2 _ hn2_2 ((HR2.out.below B0).below (below0 _ _))).mono ?_
  rintro e w7 ⟨sx2_2, Sx2, rfl, Q, O, hh⟩
  have hb : Below w6.heap.size w6 w7 := Below.trans (by repeat (first | with_reducible exact Below.refl _ _ | with_reducible refine Below.setCell ?_ (by first | omega | (simp; done) | (simp; omega)) _ | with_reducible refine bDrewN ?_ _ | with_reducible refine Below.drew ?_ | with_reducible refine Below.alloc ?_ (by first | omega | (simp; done) | (simp; omega)) _)) (hh.mono (by first | omega | (simp; done) | (simp; omega)))
  have lw7 : w6.heap.size ≤ w7.heap.size := hb.size
  have cx10 : w7.cell? ⟨w6.heap.size, 0, none⟩ = some (.slice sx1_0 n1_0 n1_0) := by rw [hh.cell (by first | omega | (simp; done) | (simp; omega))]; first | (simp; done) | (simp [go_sem]; done)
  have zx1 : w6.heap.size < w7.heap.size := by have := hh.size; simp at this; omega
  have yx1 : w6.heap.size < w7.heap.size := zx1
  replace ca00 := (hb.cell (p := ⟨w.heap.size, 0, none⟩) za0).trans ca00
  replace ca01 := (hb.cell (p := ⟨w.heap.size, 1, none⟩) za0).trans ca01
  replace ca02 := (hb.cell (p := ⟨w.heap.size, 2, none⟩) za0).trans ca02
  replace za0 := Nat.lt_of_lt_of_le za0 hb.size
  replace ca10 := (hb.cell (p := ⟨w.heap.size + 1, 0, none⟩) za1).trans ca10
  replace za1 := Nat.lt_of_lt_of_le za1 hb.size
  replace ca20 := (hb.cell (p := ⟨w.heap.size + 1 + 1, 0, none⟩) za2).trans ca20
  replace ca21 := (hb.cell (p := ⟨w.heap.size + 1 + 1, 1, none⟩) za2).trans ca21
  replace ca22 := (hb.cell (p := ⟨w.heap.size + 1 + 1, 2, none⟩) za2).trans ca22
  replace za2 := Nat.lt_of_lt_of_le za2 hb.size
  replace cw00 := (hb.cell (p := ⟨PW0, 0, none⟩) zw0).trans cw00
  replace zw0 := Nat.lt_of_lt_of_le zw0 hb.size
  replace cx00 := (hb.cell (p := ⟨w5.heap.size, 0, none⟩) zx0).trans cx00
  replace cx01 := (hb.cell (p := ⟨w5.heap.size, 1, none⟩) zx0).trans cx01
  replace cx02 := (hb.cell (p := ⟨w5.heap.size, 2, none⟩) zx0).trans cx02
  replace zx0 := Nat.lt_of_lt_of_le zx0 hb.size
  replace Ox0 : Hid (NetR Sx0 w7 sx0_1 n0_1 V0_1 sx0_2 n0_2 V0_2) := Ox0.out.below hb
  replace Ox1 : Hid (BookR Sx1 w7 sx1_0 n1_0 X1_0 Y1_0 K1_0 V1_0) := Ox1.out.below hb
  replace Bs : Below w4.heap.size w4 w7 := Bs.trans (hb.mono Bs.size)
  replace B0 : Below w.heap.size w w7 := B0.trans (hb.mono B0.size)
  clear hb hh
  have Qx2 : Hid (∀ k, Sx2 k → w6.heap.size + 1 ≤ k ∧ k < w7.heap.size) := (show ∀ k, Sx2 k → w6.heap.size + 1 ≤ k ∧ k < w7.heap.size from by simpa using Q)
  have Ox2 : Hid (PrmR Sx2 w7 sx2_2 n2_2 V2_2) := O
  clear O Q
  go_wp2_with fail
  refine (H2.out sx0_1 sx0_2 sx1_0 sx2_2 _ ((Ox0.out.row).below (below0 _ _)) ((Ox1.out.row).below (below0 _ _)) ((Ox2.out.row).below (below0 _ _))).mono ?_
  rintro e w8 ⟨sgr0_0, cgr0_0, Sg0, rfl, Q0, O0, hh⟩
  have hb : Below w7.heap.size w7 w8 := Below.trans (by repeat (first | with_reducible exact Below.refl _ _ | with_reducible refine Below.setCell ?_ (by first | omega | (simp; done) | (simp; omega)) _ | with_reducible refine bDrewN ?_ _ | with_reducible refine Below.drew ?_ | with_reducible refine Below.alloc ?_ (by first | omega | (simp; done) | (simp; omega)) _)) (hh.mono (by first | omega | (simp; done) | (simp; omega)))
  have lw8 : w7.heap.size ≤ w8.heap.size := hb.size
  have cx20 : w8.cell? ⟨w7.heap.size, 0, none⟩ = some (.int .i64 a2_0) := by rw [hh.cell (by first | omega | (simp; done) | (simp; omega))]; first | (simp; done) | (simp [go_sem]; done)
  have cx21 : w8.cell? ⟨w7.heap.size, 1, none⟩ = some (.int .i64 a2_1) := by rw [hh.cell (by first | omega | (simp; done) | (simp; omega))]; first | (simp; done) | (simp [go_sem]; done)
  have cx22 : w8.cell? ⟨w7.heap.size, 2, none⟩ = some (.slice sx2_2 n2_2 n2_2) := by rw [hh.cell (by first | omega | (simp; done) | (simp; omega))]; first | (simp; done) | (simp [go_sem]; done)
  have zx2 : w7.heap.size < w8.heap.size := by have := hh.size; simp at this; omega
  have yx2 : w7.heap.size < w8.heap.size := zx2
  replace ca00 := (hb.cell (p := ⟨w.heap.size, 0, none⟩) za0).trans ca00
  replace ca01 := (hb.cell (p := ⟨w.heap.size, 1, none⟩) za0).trans ca01
  replace ca02 := (hb.cell (p := ⟨w.heap.size, 2, none⟩) za0).trans ca02
  replace za0 := Nat.lt_of_lt_of_le za0 hb.size
  replace ca10 := (hb.cell (p := ⟨w.heap.size + 1, 0, none⟩) za1).trans ca10
  replace za1 := Nat.lt_of_lt_of_le za1 hb.size
  replace ca20 := (hb.cell (p := ⟨w.heap.size + 1 + 1, 0, none⟩) za2).trans ca20
  replace ca21 := (hb.cell (p := ⟨w.heap.size + 1 + 1, 1, none⟩) za2).trans ca21
  replace ca22 := (hb.cell (p := ⟨w.heap.size + 1 + 1, 2, none⟩) za2).trans ca22
  replace za2 := Nat.lt_of_lt_of_le za2 hb.size
  replace cw00 := (hb.cell (p := ⟨PW0, 0, none⟩) zw0).trans cw00
  replace zw0 := Nat.lt_of_lt_of_le zw0 hb.size
  replace cx00 := (hb.cell (p := ⟨w5.heap.size, 0, none⟩) zx0).trans cx00
  replace cx01 := (hb.cell (p := ⟨w5.heap.size, 1, none⟩) zx0).trans cx01
  replace cx02 := (hb.cell (p := ⟨w5.heap.size, 2, none⟩) zx0).trans cx02
  replace zx0 := Nat.lt_of_lt_of_le zx0 hb.size
  replace cx10 := (hb.cell (p := ⟨w6.heap.size, 0, none⟩) zx1).trans cx10
  replace zx1 := Nat.lt_of_lt_of_le zx1 hb.size
  replace Ox0 : Hid (NetR Sx0 w8 sx0_1 n0_1 V0_1 sx0_2 n0_2 V0_2) := Ox0.out.below hb
  replace Ox1 : Hid (BookR Sx1 w8 sx1_0 n1_0 X1_0 Y1_0 K1_0 V1_0) := Ox1.out.below hb
  replace Ox2 : Hid (PrmR Sx2 w8 sx2_2 n2_2 V2_2) := Ox2.out.below hb
  replace Bs : Below w4.heap.size w4 w8 := Bs.trans (hb.mono Bs.size)
  replace B0 : Below w.heap.size w w8 := B0.trans (hb.mono B0.size)
  clear hb hh
  have Qg0 : Hid (∀ k, Sg0 k → w7.heap.size + 1 ≤ k ∧ k < w8.heap.size) := (show ∀ k, Sg0 k → w7.heap.size + 1 ≤ k ∧ k < w8.heap.size from by simpa using Q0)
  have Og0 : Hid (BookR Sg0 w8 sgr0_0 nr0_0 Xr0_0 Yr0_0 Kr0_0 Vr0_0) := O0
  clear O0 Q0
  go_wp2_with fail
  refine (eqBook_r nr0_0 Xr0_0 Yr0_0 Kr0_0 Vr0_0 sgr0_0 cgr0_0 sWr0_0 cWr0_0 _ hnr0_0 ((Og0.out.row).below (below0 _ _)) ((RW0.out.below Bs).below (below0 _ _))).mono ?_
  rintro e w9 ⟨rfl, hh⟩
  have hb : Below w8.heap.size w8 w9 := Below.trans (by repeat (first | with_reducible exact Below.refl _ _ | with_reducible refine Below.setCell ?_ (by first | omega | (simp; done) | (simp; omega)) _ | with_reducible refine bDrewN ?_ _ | with_reducible refine Below.drew ?_ | with_reducible refine Below.alloc ?_ (by first | omega | (simp; done) | (simp; omega)) _)) (hh.mono (by first | omega | (simp; done) | (simp; omega)))
  have lw9 : w8.heap.size ≤ w9.heap.size := hb.size
  have cg00 : w9.cell? ⟨w8.heap.size, 0, none⟩ = some (.slice sgr0_0 nr0_0 cgr0_0) := by rw [hh.cell (by first | omega | (simp; done) | (simp; omega))]; first | (simp; done) | (simp [go_sem]; done)
  have zg0 : w8.heap.size < w9.heap.size := by have := hh.size; simp at this; omega
  have yg0 : w8.heap.size < w9.heap.size := zg0
  replace ca00 := (hb.cell (p := ⟨w.heap.size, 0, none⟩) za0).trans ca00
  replace ca01 := (hb.cell (p := ⟨w.heap.size, 1, none⟩) za0).trans ca01
  replace ca02 := (hb.cell (p := ⟨w.heap.size, 2, none⟩) za0).trans ca02
  replace za0 := Nat.lt_of_lt_of_le za0 hb.size
  replace ca10 := (hb.cell (p := ⟨w.heap.size + 1, 0, none⟩) za1).trans ca10
  replace za1 := Nat.lt_of_lt_of_le za1 hb.size
  replace ca20 := (hb.cell (p := ⟨w.heap.size + 1 + 1, 0, none⟩) za2).trans ca20
  replace ca21 := (hb.cell (p := ⟨w.heap.size + 1 + 1, 1, none⟩) za2).trans ca21
  replace ca22 := (hb.cell (p := ⟨w.heap.size + 1 + 1, 2, none⟩) za2).trans ca22
  replace za2 := Nat.lt_of_lt_of_le za2 hb.size
  replace cw00 := (hb.cell (p := ⟨PW0, 0, none⟩) zw0).trans cw00
  replace zw0 := Nat.lt_of_lt_of_le zw0 hb.size
  replace cx00 := (hb.cell (p := ⟨w5.heap.size, 0, none⟩) zx0).trans cx00
  replace cx01 := (hb.cell (p := ⟨w5.heap.size, 1, none⟩) zx0).trans cx01
  replace cx02 := (hb.cell (p := ⟨w5.heap.size, 2, none⟩) zx0).trans cx02
  replace zx0 := Nat.lt_of_lt_of_le zx0 hb.size
  replace cx10 := (hb.cell (p := ⟨w6.heap.size, 0, none⟩) zx1).trans cx10
  replace zx1 := Nat.lt_of_lt_of_le zx1 hb.size
  replace cx20 := (hb.cell (p := ⟨w7.heap.size, 0, none⟩) zx2).trans cx20
  replace cx21 := (hb.cell (p := ⟨w7.heap.size, 1, none⟩) zx2).trans cx21
  replace cx22 := (hb.cell (p := ⟨w7.heap.size, 2, none⟩) zx2).trans cx22
  replace zx2 := Nat.lt_of_lt_of_le zx2 hb.size
  replace Ox0 : Hid (NetR Sx0 w9 sx0_1 n0_1 V0_1 sx0_2 n0_2 V0_2) := Ox0.out.below hb
  replace Ox1 : Hid (BookR Sx1 w9 sx1_0 n1_0 X1_0 Y1_0 K1_0 V1_0) := Ox1.out.below hb
  replace Ox2 : Hid (PrmR Sx2 w9 sx2_2 n2_2 V2_2) := Ox2.out.below hb
  replace Og0 : Hid (BookR Sg0 w9 sgr0_0 nr0_0 Xr0_0 Yr0_0 Kr0_0 Vr0_0) := Og0.out.below hb
  replace Bs : Below w4.heap.size w4 w9 := Bs.trans (hb.mono Bs.size)
  replace B0 : Below w.heap.size w w9 := B0.trans (hb.mono B0.size)
  clear hb hh
  go_upto_region 18 with fail
  have HB : Hid (Below w.heap.size w w9) := B0
  go_cut [71] (fun y wx => y = .bool false ∧ Below w9.heap.size w9 wx)
  case first =>
    go_region_held3 (fun w' => w'.cell? ⟨w.heap.size, 0, none⟩ = some (.int .i64 a0_0) ∧ w'.cell? ⟨w.heap.size, 1, none⟩ = some (.slice s0_1 n0_1 c0_1) ∧ w'.cell? ⟨w.heap.size, 2, none⟩ = some (.slice s0_2 n0_2 c0_2) ∧ w'.cell? ⟨w5.heap.size, 0, none⟩ = some (.int .i64 a0_0) ∧ w'.cell? ⟨w5.heap.size, 1, none⟩ = some (.slice sx0_1 n0_1 n0_1) ∧ w'.cell? ⟨w5.heap.size, 2, none⟩ = some (.slice sx0_2 n0_2 n0_2)) (first | (exact ⟨ca00, ca01, ca02, cx00, cx01, cx02⟩) | (refine keepLaw3_3 ca00 ca01 ca02 cx00 cx01 cx02 za0 zx0 ?_; exact (by repeat (first | with_reducible exact Below.refl _ _ | with_reducible exact B8 | with_reducible exact B7 | with_reducible refine Below.setCell ?_ (by first | omega | (simp; done) | (simp; omega)) _ | with_reducible refine bDrewN ?_ _ | with_reducible refine Below.drew ?_ | with_reducible refine Below.alloc ?_ (by first | omega | (simp; done) | (simp; omega)) _)))) (first
      | (go_at_call 13; refine (toNet_r a0_0 n0_1 V0_1 n0_2 V0_2 s0_1 c0_1 s0_2 c0_2 _ hn0_1 hn0_2 (HR0.out.below (HB.out.trans (Below.mono (by repeat (first | with_reducible exact Below.refl _ _ | with_reducible refine Below.setCell ?_ (by first | omega | (simp; done) | (simp; omega)) _ | with_reducible refine bDrewN ?_ _ | with_reducible refine Below.drew ?_ | with_reducible refine Below.alloc ?_ (by first | omega | (simp; done) | (simp; omega)) _)) HB.out.size)))).mono ?_; rintro e wy ⟨sy0_1, sy0_2, Sy, rfl, -, OY, h7⟩; have B7 : Below w9.heap.size w9 wy := Below.trans (by repeat (first | with_reducible exact Below.refl _ _ | with_reducible refine Below.setCell ?_ (by first | omega | (simp; done) | (simp; omega)) _ | with_reducible refine bDrewN ?_ _ | with_reducible refine Below.drew ?_ | with_reducible refine Below.alloc ?_ (by first | omega | (simp; done) | (simp; omega)) _)) (h7.mono (by first | omega | (simp; done) | (simp; omega))); have s7 := B7.size; have PY : Hid (RowNet wy sy0_1 n0_1 V0_1 sy0_2 n0_2 V0_2) := OY.row; have PX : Hid (RowNet wy sx0_1 n0_1 V0_1 sx0_2 n0_2 V0_2) := Ox0.out.row.below B7; clear h7 OY)
      | (go_at_call 18; refine (eqNet_r a0_0 n0_1 V0_1 n0_2 V0_2 sx0_1 n0_1 sx0_2 n0_2 sy0_1 n0_1 sy0_2 n0_2 _ hn0_1 hn0_2 PX.out PY.out).mono ?_; rintro e wz ⟨rfl, h8⟩; have B8 : Below w9.heap.size w9 wz := Below.trans (by repeat (first | with_reducible exact Below.refl _ _ | with_reducible exact B7 | with_reducible refine Below.setCell ?_ (by first | omega | (simp; done) | (simp; omega)) _ | with_reducible refine bDrewN ?_ _ | with_reducible refine Below.drew ?_ | with_reducible refine Below.alloc ?_ (by first | omega | (simp; done) | (simp; omega)) _)) (h8.mono (by first | omega | (simp; done) | (simp; omega))); clear h8))
    all_goals
      go_wp2_with fail
      go_meet
      exact ⟨rfl, B8⟩
  obtain ⟨rfl, hb⟩ := hcut
  rename World => w10
  have lw10 : w9.heap.size ≤ w10.heap.size := hb.size
  replace ca00 := (hb.cell (p := ⟨w.heap.size, 0, none⟩) za0).trans ca00
  replace ca01 := (hb.cell (p := ⟨w.heap.size, 1, none⟩) za0).trans ca01
  replace ca02 := (hb.cell (p := ⟨w.heap.size, 2, none⟩) za0).trans ca02
  replace za0 := Nat.lt_of_lt_of_le za0 hb.size
  replace ca10 := (hb.cell (p := ⟨w.heap.size + 1, 0, none⟩) za1).trans ca10
  replace za1 := Nat.lt_of_lt_of_le za1 hb.size
  replace ca20 := (hb.cell (p := ⟨w.heap.size + 1 + 1, 0, none⟩) za2).trans ca20
  replace ca21 := (hb.cell (p := ⟨w.heap.size + 1 + 1, 1, none⟩) za2).trans ca21
  replace ca22 := (hb.cell (p := ⟨w.heap.size + 1 + 1, 2, none⟩) za2).trans ca22
  replace za2 := Nat.lt_of_lt_of_le za2 hb.size
  replace cw00 := (hb.cell (p := ⟨PW0, 0, none⟩) zw0).trans cw00
  replace zw0 := Nat.lt_of_lt_of_le zw0 hb.size
  replace cx00 := (hb.cell (p := ⟨w5.heap.size, 0, none⟩) zx0).trans cx00
  replace cx01 := (hb.cell (p := ⟨w5.heap.size, 1, none⟩) zx0).trans cx01
  replace cx02 := (hb.cell (p := ⟨w5.heap.size, 2, none⟩) zx0).trans cx02
  replace zx0 := Nat.lt_of_lt_of_le zx0 hb.size
  replace cx10 := (hb.cell (p := ⟨w6.heap.size, 0, none⟩) zx1).trans cx10
  replace zx1 := Nat.lt_of_lt_of_le zx1 hb.size
  replace cx20 := (hb.cell (p := ⟨w7.heap.size, 0, none⟩) zx2).trans cx20
  replace cx21 := (hb.cell (p := ⟨w7.heap.size, 1, none⟩) zx2).trans cx21
  replace cx22 := (hb.cell (p := ⟨w7.heap.size, 2, none⟩) zx2).trans cx22
  replace zx2 := Nat.lt_of_lt_of_le zx2 hb.size
  replace cg00 := (hb.cell (p := ⟨w8.heap.size, 0, none⟩) zg0).trans cg00
  replace zg0 := Nat.lt_of_lt_of_le zg0 hb.size
  replace Ox0 : Hid (NetR Sx0 w10 sx0_1 n0_1 V0_1 sx0_2 n0_2 V0_2) := Ox0.out.below hb
  replace Ox1 : Hid (BookR Sx1 w10 sx1_0 n1_0 X1_0 Y1_0 K1_0 V1_0) := Ox1.out.below hb
  replace Ox2 : Hid (PrmR Sx2 w10 sx2_2 n2_2 V2_2) := Ox2.out.below hb
  replace Og0 : Hid (BookR Sg0 w10 sgr0_0 nr0_0 Xr0_0 Yr0_0 Kr0_0 Vr0_0) := Og0.out.below hb
  replace Bs : Below w4.heap.size w4 w10 := Bs.trans (hb.mono Bs.size)
  replace B0 : Below w.heap.size w w10 := B0.trans (hb.mono B0.size)
  clear hb HB
  go_upto_region 20 with fail
  have HB : Hid (Below w.heap.size w w10) := B0
  go_cut [76] (fun y wx => y = .bool false ∧ Below w10.heap.size w10 wx)
  case first =>
    go_region_held3 (fun w' => w'.cell? ⟨w.heap.size + 1, 0, none⟩ = some (.slice s1_0 n1_0 c1_0) ∧ w'.cell? ⟨w6.heap.size, 0, none⟩ = some (.slice sx1_0 n1_0 n1_0)) (first | (exact ⟨ca10, cx10⟩) | (refine keepLaw1_1 ca10 cx10 za1 zx1 ?_; exact (by repeat (first | with_reducible exact Below.refl _ _ | with_reducible exact B8 | with_reducible exact B7 | with_reducible refine Below.setCell ?_ (by first | omega | (simp; done) | (simp; omega)) _ | with_reducible refine bDrewN ?_ _ | with_reducible refine Below.drew ?_ | with_reducible refine Below.alloc ?_ (by first | omega | (simp; done) | (simp; omega)) _)))) (first
      | (go_at_call 14; refine (toBook_r n1_0 X1_0 Y1_0 K1_0 V1_0 s1_0 c1_0 _ hn1_0 (HR1.out.below (HB.out.trans (Below.mono (by repeat (first | with_reducible exact Below.refl _ _ | with_reducible refine Below.setCell ?_ (by first | omega | (simp; done) | (simp; omega)) _ | with_reducible refine bDrewN ?_ _ | with_reducible refine Below.drew ?_ | with_reducible refine Below.alloc ?_ (by first | omega | (simp; done) | (simp; omega)) _)) HB.out.size)))).mono ?_; rintro e wy ⟨sy1_0, Sy, rfl, -, OY, h7⟩; have B7 : Below w10.heap.size w10 wy := Below.trans (by repeat (first | with_reducible exact Below.refl _ _ | with_reducible refine Below.setCell ?_ (by first | omega | (simp; done) | (simp; omega)) _ | with_reducible refine bDrewN ?_ _ | with_reducible refine Below.drew ?_ | with_reducible refine Below.alloc ?_ (by first | omega | (simp; done) | (simp; omega)) _)) (h7.mono (by first | omega | (simp; done) | (simp; omega))); have s7 := B7.size; have PY : Hid (RowBook wy sy1_0 n1_0 X1_0 Y1_0 K1_0 V1_0) := OY.row; have PX : Hid (RowBook wy sx1_0 n1_0 X1_0 Y1_0 K1_0 V1_0) := Ox1.out.row.below B7; clear h7 OY)
      | (go_at_call 17; refine (eqBook_r n1_0 X1_0 Y1_0 K1_0 V1_0 sx1_0 n1_0 sy1_0 n1_0 _ hn1_0 PX.out PY.out).mono ?_; rintro e wz ⟨rfl, h8⟩; have B8 : Below w10.heap.size w10 wz := Below.trans (by repeat (first | with_reducible exact Below.refl _ _ | with_reducible exact B7 | with_reducible refine Below.setCell ?_ (by first | omega | (simp; done) | (simp; omega)) _ | with_reducible refine bDrewN ?_ _ | with_reducible refine Below.drew ?_ | with_reducible refine Below.alloc ?_ (by first | omega | (simp; done) | (simp; omega)) _)) (h8.mono (by first | omega | (simp; done) | (simp; omega))); clear h8))
    all_goals
      go_wp2_with fail
      go_meet
      exact ⟨rfl, B8⟩
  obtain ⟨rfl, hb⟩ := hcut
  rename World => w11
  have lw11 : w10.heap.size ≤ w11.heap.size := hb.size
  replace ca00 := (hb.cell (p := ⟨w.heap.size, 0, none⟩) za0).trans ca00
  replace ca01 := (hb.cell (p := ⟨w.heap.size, 1, none⟩) za0).trans ca01
  replace ca02 := (hb.cell (p := ⟨w.heap.size, 2, none⟩) za0).trans ca02
  replace za0 := Nat.lt_of_lt_of_le za0 hb.size
  replace ca10 := (hb.cell (p := ⟨w.heap.size + 1, 0, none⟩) za1).trans ca10
  replace za1 := Nat.lt_of_lt_of_le za1 hb.size
  replace ca20 := (hb.cell (p := ⟨w.heap.size + 1 + 1, 0, none⟩) za2).trans ca20
  replace ca21 := (hb.cell (p := ⟨w.heap.size + 1 + 1, 1, none⟩) za2).trans ca21
  replace ca22 := (hb.cell (p := ⟨w.heap.size + 1 + 1, 2, none⟩) za2).trans ca22
  replace za2 := Nat.lt_of_lt_of_le za2 hb.size
  replace cw00 := (hb.cell (p := ⟨PW0, 0, none⟩) zw0).trans cw00
  replace zw0 := Nat.lt_of_lt_of_le zw0 hb.size
  replace cx00 := (hb.cell (p := ⟨w5.heap.size, 0, none⟩) zx0).trans cx00
  replace cx01 := (hb.cell (p := ⟨w5.heap.size, 1, none⟩) zx0).trans cx01
  replace cx02 := (hb.cell (p := ⟨w5.heap.size, 2, none⟩) zx0).trans cx02
  replace zx0 := Nat.lt_of_lt_of_le zx0 hb.size
  replace cx10 := (hb.cell (p := ⟨w6.heap.size, 0, none⟩) zx1).trans cx10
  replace zx1 := Nat.lt_of_lt_of_le zx1 hb.size
  replace cx20 := (hb.cell (p := ⟨w7.heap.size, 0, none⟩) zx2).trans cx20
  replace cx21 := (hb.cell (p := ⟨w7.heap.size, 1, none⟩) zx2).trans cx21
  replace cx22 := (hb.cell (p := ⟨w7.heap.size, 2, none⟩) zx2).trans cx22
  replace zx2 := Nat.lt_of_lt_of_le zx2 hb.size
  replace cg00 := (hb.cell (p := ⟨w8.heap.size, 0, none⟩) zg0).trans cg00
  replace zg0 := Nat.lt_of_lt_of_le zg0 hb.size
  replace Ox0 : Hid (NetR Sx0 w11 sx0_1 n0_1 V0_1 sx0_2 n0_2 V0_2) := Ox0.out.below hb
  replace Ox1 : Hid (BookR Sx1 w11 sx1_0 n1_0 X1_0 Y1_0 K1_0 V1_0) := Ox1.out.below hb
  replace Ox2 : Hid (PrmR Sx2 w11 sx2_2 n2_2 V2_2) := Ox2.out.below hb
  replace Og0 : Hid (BookR Sg0 w11 sgr0_0 nr0_0 Xr0_0 Yr0_0 Kr0_0 Vr0_0) := Og0.out.below hb
  replace Bs : Below w4.heap.size w4 w11 := Bs.trans (hb.mono Bs.size)
  replace B0 : Below w.heap.size w w11 := B0.trans (hb.mono B0.size)
  clear hb HB
  go_upto_region 22 with fail
  have HB : Hid (Below w.heap.size w w11) := B0
  go_cut [81] (fun y wx => y = .bool false ∧ Below w11.heap.size w11 wx)
  case first =>
    go_region_held3 (fun w' => w'.cell? ⟨w.heap.size + 1 + 1, 0, none⟩ = some (.int .i64 a2_0) ∧ w'.cell? ⟨w.heap.size + 1 + 1, 1, none⟩ = some (.int .i64 a2_1) ∧ w'.cell? ⟨w.heap.size + 1 + 1, 2, none⟩ = some (.slice s2_2 n2_2 c2_2) ∧ w'.cell? ⟨w7.heap.size, 0, none⟩ = some (.int .i64 a2_0) ∧ w'.cell? ⟨w7.heap.size, 1, none⟩ = some (.int .i64 a2_1) ∧ w'.cell? ⟨w7.heap.size, 2, none⟩ = some (.slice sx2_2 n2_2 n2_2)) (first | (exact ⟨ca20, ca21, ca22, cx20, cx21, cx22⟩) | (refine keepLaw3_3 ca20 ca21 ca22 cx20 cx21 cx22 za2 zx2 ?_; exact (by repeat (first | with_reducible exact Below.refl _ _ | with_reducible exact B8 | with_reducible exact B7 | with_reducible refine Below.setCell ?_ (by first | omega | (simp; done) | (simp; omega)) _ | with_reducible refine bDrewN ?_ _ | with_reducible refine Below.drew ?_ | with_reducible refine Below.alloc ?_ (by first | omega | (simp; done) | (simp; omega)) _)))) (first
      | (go_at_call 15; refine (toPrm_r a2_0 a2_1 n2_2 V2_2 s2_2 c2_2 _ hn2_2 (HR2.out.below (HB.out.trans (Below.mono (by repeat (first | with_reducible exact Below.refl _ _ | with_reducible refine Below.setCell ?_ (by first | omega | (simp; done) | (simp; omega)) _ | with_reducible refine bDrewN ?_ _ | with_reducible refine Below.drew ?_ | with_reducible refine Below.alloc ?_ (by first | omega | (simp; done) | (simp; omega)) _)) HB.out.size)))).mono ?_; rintro e wy ⟨sy2_2, Sy, rfl, -, OY, h7⟩; have B7 : Below w11.heap.size w11 wy := Below.trans (by repeat (first | with_reducible exact Below.refl _ _ | with_reducible refine Below.setCell ?_ (by first | omega | (simp; done) | (simp; omega)) _ | with_reducible refine bDrewN ?_ _ | with_reducible refine Below.drew ?_ | with_reducible refine Below.alloc ?_ (by first | omega | (simp; done) | (simp; omega)) _)) (h7.mono (by first | omega | (simp; done) | (simp; omega))); have s7 := B7.size; have PY : Hid (RowPrm wy sy2_2 n2_2 V2_2) := OY.row; have PX : Hid (RowPrm wy sx2_2 n2_2 V2_2) := Ox2.out.row.below B7; clear h7 OY)
      | (go_at_call 19; refine (eqPrm_r a2_0 a2_1 n2_2 V2_2 sx2_2 n2_2 sy2_2 n2_2 _ hn2_2 PX.out PY.out).mono ?_; rintro e wz ⟨rfl, h8⟩; have B8 : Below w11.heap.size w11 wz := Below.trans (by repeat (first | with_reducible exact Below.refl _ _ | with_reducible exact B7 | with_reducible refine Below.setCell ?_ (by first | omega | (simp; done) | (simp; omega)) _ | with_reducible refine bDrewN ?_ _ | with_reducible refine Below.drew ?_ | with_reducible refine Below.alloc ?_ (by first | omega | (simp; done) | (simp; omega)) _)) (h8.mono (by first | omega | (simp; done) | (simp; omega))); clear h8))
    all_goals
      go_wp2_with fail
      go_meet
      exact ⟨rfl, B8⟩
  obtain ⟨rfl, hb⟩ := hcut
  rename World => w12
  have lw12 : w11.heap.size ≤ w12.heap.size := hb.size
  replace ca00 := (hb.cell (p := ⟨w.heap.size, 0, none⟩) za0).trans ca00
  replace ca01 := (hb.cell (p := ⟨w.heap.size, 1, none⟩) za0).trans ca01
  replace ca02 := (hb.cell (p := ⟨w.heap.size, 2, none⟩) za0).trans ca02
  replace za0 := Nat.lt_of_lt_of_le za0 hb.size
  replace ca10 := (hb.cell (p := ⟨w.heap.size + 1, 0, none⟩) za1).trans ca10
  replace za1 := Nat.lt_of_lt_of_le za1 hb.size
  replace ca20 := (hb.cell (p := ⟨w.heap.size + 1 + 1, 0, none⟩) za2).trans ca20
  replace ca21 := (hb.cell (p := ⟨w.heap.size + 1 + 1, 1, none⟩) za2).trans ca21
  replace ca22 := (hb.cell (p := ⟨w.heap.size + 1 + 1, 2, none⟩) za2).trans ca22
  replace za2 := Nat.lt_of_lt_of_le za2 hb.size
  replace cw00 := (hb.cell (p := ⟨PW0, 0, none⟩) zw0).trans cw00
  replace zw0 := Nat.lt_of_lt_of_le zw0 hb.size
  replace cx00 := (hb.cell (p := ⟨w5.heap.size, 0, none⟩) zx0).trans cx00
  replace cx01 := (hb.cell (p := ⟨w5.heap.size, 1, none⟩) zx0).trans cx01
  replace cx02 := (hb.cell (p := ⟨w5.heap.size, 2, none⟩) zx0).trans cx02
  replace zx0 := Nat.lt_of_lt_of_le zx0 hb.size
  replace cx10 := (hb.cell (p := ⟨w6.heap.size, 0, none⟩) zx1).trans cx10
  replace zx1 := Nat.lt_of_lt_of_le zx1 hb.size
  replace cx20 := (hb.cell (p := ⟨w7.heap.size, 0, none⟩) zx2).trans cx20
  replace cx21 := (hb.cell (p := ⟨w7.heap.size, 1, none⟩) zx2).trans cx21
  replace cx22 := (hb.cell (p := ⟨w7.heap.size, 2, none⟩) zx2).trans cx22
  replace zx2 := Nat.lt_of_lt_of_le zx2 hb.size
  replace cg00 := (hb.cell (p := ⟨w8.heap.size, 0, none⟩) zg0).trans cg00
  replace zg0 := Nat.lt_of_lt_of_le zg0 hb.size
  replace Ox0 : Hid (NetR Sx0 w12 sx0_1 n0_1 V0_1 sx0_2 n0_2 V0_2) := Ox0.out.below hb
  replace Ox1 : Hid (BookR Sx1 w12 sx1_0 n1_0 X1_0 Y1_0 K1_0 V1_0) := Ox1.out.below hb
  replace Ox2 : Hid (PrmR Sx2 w12 sx2_2 n2_2 V2_2) := Ox2.out.below hb
  replace Og0 : Hid (BookR Sg0 w12 sgr0_0 nr0_0 Xr0_0 Yr0_0 Kr0_0 Vr0_0) := Og0.out.below hb
  replace Bs : Below w4.heap.size w4 w12 := Bs.trans (hb.mono Bs.size)
  replace B0 : Below w.heap.size w w12 := B0.trans (hb.mono B0.size)
  clear hb HB
  go_wp2_with fail
  refine (markNet_r a0_0 n0_1 V0_1 n0_2 V0_2 sx0_1 n0_1 sx0_2 n0_2 Sx0 (1) _ hn0_1 hn0_2 (by omega) (by omega) (fun k q => by have := Qx0.out k q; omega) Ox0.out).mono ?_
  rintro e w13 ⟨rfl, T⟩
  have lw13 : w12.heap.size ≤ w13.heap.size := T.size
  replace ca00 := (T.cell (p := ⟨w.heap.size, 0, none⟩) za0 (show ¬ Sx0 (w.heap.size) from fun q => by have := Qx0.out _ q; omega)).trans ca00
  replace ca01 := (T.cell (p := ⟨w.heap.size, 1, none⟩) za0 (show ¬ Sx0 (w.heap.size) from fun q => by have := Qx0.out _ q; omega)).trans ca01
  replace ca02 := (T.cell (p := ⟨w.heap.size, 2, none⟩) za0 (show ¬ Sx0 (w.heap.size) from fun q => by have := Qx0.out _ q; omega)).trans ca02
  replace za0 := Nat.lt_of_lt_of_le za0 T.size
  replace ca10 := (T.cell (p := ⟨w.heap.size + 1, 0, none⟩) za1 (show ¬ Sx0 (w.heap.size + 1) from fun q => by have := Qx0.out _ q; omega)).trans ca10
  replace za1 := Nat.lt_of_lt_of_le za1 T.size
  replace ca20 := (T.cell (p := ⟨w.heap.size + 1 + 1, 0, none⟩) za2 (show ¬ Sx0 (w.heap.size + 1 + 1) from fun q => by have := Qx0.out _ q; omega)).trans ca20
  replace ca21 := (T.cell (p := ⟨w.heap.size + 1 + 1, 1, none⟩) za2 (show ¬ Sx0 (w.heap.size + 1 + 1) from fun q => by have := Qx0.out _ q; omega)).trans ca21
  replace ca22 := (T.cell (p := ⟨w.heap.size + 1 + 1, 2, none⟩) za2 (show ¬ Sx0 (w.heap.size + 1 + 1) from fun q => by have := Qx0.out _ q; omega)).trans ca22
  replace za2 := Nat.lt_of_lt_of_le za2 T.size
  replace cw00 := (T.cell (p := ⟨PW0, 0, none⟩) zw0 (show ¬ Sx0 (PW0) from fun q => by have := Qx0.out _ q; omega)).trans cw00
  replace zw0 := Nat.lt_of_lt_of_le zw0 T.size
  replace cx00 := (T.cell (p := ⟨w5.heap.size, 0, none⟩) zx0 (show ¬ Sx0 (w5.heap.size) from fun q => by have := Qx0.out _ q; omega)).trans cx00
  replace cx01 := (T.cell (p := ⟨w5.heap.size, 1, none⟩) zx0 (show ¬ Sx0 (w5.heap.size) from fun q => by have := Qx0.out _ q; omega)).trans cx01
  replace cx02 := (T.cell (p := ⟨w5.heap.size, 2, none⟩) zx0 (show ¬ Sx0 (w5.heap.size) from fun q => by have := Qx0.out _ q; omega)).trans cx02
  replace zx0 := Nat.lt_of_lt_of_le zx0 T.size
  replace cx10 := (T.cell (p := ⟨w6.heap.size, 0, none⟩) zx1 (show ¬ Sx0 (w6.heap.size) from fun q => by have := Qx0.out _ q; omega)).trans cx10
  replace zx1 := Nat.lt_of_lt_of_le zx1 T.size
  replace cx20 := (T.cell (p := ⟨w7.heap.size, 0, none⟩) zx2 (show ¬ Sx0 (w7.heap.size) from fun q => by have := Qx0.out _ q; omega)).trans cx20
  replace cx21 := (T.cell (p := ⟨w7.heap.size, 1, none⟩) zx2 (show ¬ Sx0 (w7.heap.size) from fun q => by have := Qx0.out _ q; omega)).trans cx21
  replace cx22 := (T.cell (p := ⟨w7.heap.size, 2, none⟩) zx2 (show ¬ Sx0 (w7.heap.size) from fun q => by have := Qx0.out _ q; omega)).trans cx22
  replace zx2 := Nat.lt_of_lt_of_le zx2 T.size
  replace cg00 := (T.cell (p := ⟨w8.heap.size, 0, none⟩) zg0 (show ¬ Sx0 (w8.heap.size) from fun q => by have := Qx0.out _ q; omega)).trans cg00
  replace zg0 := Nat.lt_of_lt_of_le zg0 T.size
  replace Ox1 : Hid (BookR Sx1 w13 sx1_0 n1_0 X1_0 Y1_0 K1_0 V1_0) := Ox1.out.keep T.size (fun k hk hl => T.2.2.2.2 k hl (fun q => by have := Qx0.out k q; have := Qx1.out k hk; omega))
  replace Ox2 : Hid (PrmR Sx2 w13 sx2_2 n2_2 V2_2) := Ox2.out.keep T.size (fun k hk hl => T.2.2.2.2 k hl (fun q => by have := Qx0.out k q; have := Qx2.out k hk; omega))
  replace Og0 : Hid (BookR Sg0 w13 sgr0_0 nr0_0 Xr0_0 Yr0_0 Kr0_0 Vr0_0) := Og0.out.keep T.size (fun k hk hl => T.2.2.2.2 k hl (fun q => by have := Qx0.out k q; have := Qg0.out k hk; omega))
  replace Bs : Below w4.heap.size w4 w13 := Bs.trans (T.below (fun k q => by have := Qx0.out k q; omega) (by omega))
  replace B0 : Below w.heap.size w w13 := B0.trans (T.below (fun k q => by have := Qx0.out k q; omega) (by omega))
  clear T Ox0
  go_wp2_with fail
  refine (markBook_r n1_0 X1_0 Y1_0 K1_0 V1_0 sx1_0 n1_0 Sx1 (1 + (n0_1 * 2 : Nat) + n0_2) _ hn1_0 (by omega) (by omega) (fun k q => by have := Qx1.out k q; omega) Ox1.out).mono ?_
  rintro e w14 ⟨rfl, T⟩
  have lw14 : w13.heap.size ≤ w14.heap.size := T.size
  replace ca00 := (T.cell (p := ⟨w.heap.size, 0, none⟩) za0 (show ¬ Sx1 (w.heap.size) from fun q => by have := Qx1.out _ q; omega)).trans ca00
  replace ca01 := (T.cell (p := ⟨w.heap.size, 1, none⟩) za0 (show ¬ Sx1 (w.heap.size) from fun q => by have := Qx1.out _ q; omega)).trans ca01
  replace ca02 := (T.cell (p := ⟨w.heap.size, 2, none⟩) za0 (show ¬ Sx1 (w.heap.size) from fun q => by have := Qx1.out _ q; omega)).trans ca02
  replace za0 := Nat.lt_of_lt_of_le za0 T.size
  replace ca10 := (T.cell (p := ⟨w.heap.size + 1, 0, none⟩) za1 (show ¬ Sx1 (w.heap.size + 1) from fun q => by have := Qx1.out _ q; omega)).trans ca10
  replace za1 := Nat.lt_of_lt_of_le za1 T.size
  replace ca20 := (T.cell (p := ⟨w.heap.size + 1 + 1, 0, none⟩) za2 (show ¬ Sx1 (w.heap.size + 1 + 1) from fun q => by have := Qx1.out _ q; omega)).trans ca20
  replace ca21 := (T.cell (p := ⟨w.heap.size + 1 + 1, 1, none⟩) za2 (show ¬ Sx1 (w.heap.size + 1 + 1) from fun q => by have := Qx1.out _ q; omega)).trans ca21
  replace ca22 := (T.cell (p := ⟨w.heap.size + 1 + 1, 2, none⟩) za2 (show ¬ Sx1 (w.heap.size + 1 + 1) from fun q => by have := Qx1.out _ q; omega)).trans ca22
  replace za2 := Nat.lt_of_lt_of_le za2 T.size
  replace cw00 := (T.cell (p := ⟨PW0, 0, none⟩) zw0 (show ¬ Sx1 (PW0) from fun q => by have := Qx1.out _ q; omega)).trans cw00
  replace zw0 := Nat.lt_of_lt_of_le zw0 T.size
  replace cx00 := (T.cell (p := ⟨w5.heap.size, 0, none⟩) zx0 (show ¬ Sx1 (w5.heap.size) from fun q => by have := Qx1.out _ q; omega)).trans cx00
  replace cx01 := (T.cell (p := ⟨w5.heap.size, 1, none⟩) zx0 (show ¬ Sx1 (w5.heap.size) from fun q => by have := Qx1.out _ q; omega)).trans cx01
  replace cx02 := (T.cell (p := ⟨w5.heap.size, 2, none⟩) zx0 (show ¬ Sx1 (w5.heap.size) from fun q => by have := Qx1.out _ q; omega)).trans cx02
  replace zx0 := Nat.lt_of_lt_of_le zx0 T.size
  replace cx10 := (T.cell (p := ⟨w6.heap.size, 0, none⟩) zx1 (show ¬ Sx1 (w6.heap.size) from fun q => by have := Qx1.out _ q; omega)).trans cx10
  replace zx1 := Nat.lt_of_lt_of_le zx1 T.size
  replace cx20 := (T.cell (p := ⟨w7.heap.size, 0, none⟩) zx2 (show ¬ Sx1 (w7.heap.size) from fun q => by have := Qx1.out _ q; omega)).trans cx20
  replace cx21 := (T.cell (p := ⟨w7.heap.size, 1, none⟩) zx2 (show ¬ Sx1 (w7.heap.size) from fun q => by have := Qx1.out _ q; omega)).trans cx21
  replace cx22 := (T.cell (p := ⟨w7.heap.size, 2, none⟩) zx2 (show ¬ Sx1 (w7.heap.size) from fun q => by have := Qx1.out _ q; omega)).trans cx22
  replace zx2 := Nat.lt_of_lt_of_le zx2 T.size
  replace cg00 := (T.cell (p := ⟨w8.heap.size, 0, none⟩) zg0 (show ¬ Sx1 (w8.heap.size) from fun q => by have := Qx1.out _ q; omega)).trans cg00
  replace zg0 := Nat.lt_of_lt_of_le zg0 T.size
  replace Ox2 : Hid (PrmR Sx2 w14 sx2_2 n2_2 V2_2) := Ox2.out.keep T.size (fun k hk hl => T.2.2.2.2 k hl (fun q => by have := Qx1.out k q; have := Qx2.out k hk; omega))
  replace Og0 : Hid (BookR Sg0 w14 sgr0_0 nr0_0 Xr0_0 Yr0_0 Kr0_0 Vr0_0) := Og0.out.keep T.size (fun k hk hl => T.2.2.2.2 k hl (fun q => by have := Qx1.out k q; have := Qg0.out k hk; omega))
  replace Bs : Below w4.heap.size w4 w14 := Bs.trans (T.below (fun k q => by have := Qx1.out k q; omega) (by omega))
  replace B0 : Below w.heap.size w w14 := B0.trans (T.below (fun k q => by have := Qx1.out k q; omega) (by omega))
  clear T Ox1
  go_wp2_with fail
  refine (markPrm_r a2_0 a2_1 n2_2 V2_2 sx2_2 n2_2 Sx2 (1 + (n0_1 * 2 : Nat) + n0_2 + ((n1_0 : Int) * 2 + (suK K1_0 n1_0 : Int))) _ hn2_2 (by omega) (by omega) (fun k q => by have := Qx2.out k q; omega) Ox2.out).mono ?_
  rintro e w15 ⟨rfl, T⟩
  have lw15 : w14.heap.size ≤ w15.heap.size := T.size
  replace ca00 := (T.cell (p := ⟨w.heap.size, 0, none⟩) za0 (show ¬ Sx2 (w.heap.size) from fun q => by have := Qx2.out _ q; omega)).trans ca00
  replace ca01 := (T.cell (p := ⟨w.heap.size, 1, none⟩) za0 (show ¬ Sx2 (w.heap.size) from fun q => by have := Qx2.out _ q; omega)).trans ca01
  replace ca02 := (T.cell (p := ⟨w.heap.size, 2, none⟩) za0 (show ¬ Sx2 (w.heap.size) from fun q => by have := Qx2.out _ q; omega)).trans ca02
  replace za0 := Nat.lt_of_lt_of_le za0 T.size
  replace ca10 := (T.cell (p := ⟨w.heap.size + 1, 0, none⟩) za1 (show ¬ Sx2 (w.heap.size + 1) from fun q => by have := Qx2.out _ q; omega)).trans ca10
  replace za1 := Nat.lt_of_lt_of_le za1 T.size
  replace ca20 := (T.cell (p := ⟨w.heap.size + 1 + 1, 0, none⟩) za2 (show ¬ Sx2 (w.heap.size + 1 + 1) from fun q => by have := Qx2.out _ q; omega)).trans ca20
  replace ca21 := (T.cell (p := ⟨w.heap.size + 1 + 1, 1, none⟩) za2 (show ¬ Sx2 (w.heap.size + 1 + 1) from fun q => by have := Qx2.out _ q; omega)).trans ca21
  replace ca22 := (T.cell (p := ⟨w.heap.size + 1 + 1, 2, none⟩) za2 (show ¬ Sx2 (w.heap.size + 1 + 1) from fun q => by have := Qx2.out _ q; omega)).trans ca22
  replace za2 := Nat.lt_of_lt_of_le za2 T.size
  replace cw00 := (T.cell (p := ⟨PW0, 0, none⟩) zw0 (show ¬ Sx2 (PW0) from fun q => by have := Qx2.out _ q; omega)).trans cw00
  replace zw0 := Nat.lt_of_lt_of_le zw0 T.size
  replace cx00 := (T.cell (p := ⟨w5.heap.size, 0, none⟩) zx0 (show ¬ Sx2 (w5.heap.size) from fun q => by have := Qx2.out _ q; omega)).trans cx00
  replace cx01 := (T.cell (p := ⟨w5.heap.size, 1, none⟩) zx0 (show ¬ Sx2 (w5.heap.size) from fun q => by have := Qx2.out _ q; omega)).trans cx01
  replace cx02 := (T.cell (p := ⟨w5.heap.size, 2, none⟩) zx0 (show ¬ Sx2 (w5.heap.size) from fun q => by have := Qx2.out _ q; omega)).trans cx02
  replace zx0 := Nat.lt_of_lt_of_le zx0 T.size
  replace cx10 := (T.cell (p := ⟨w6.heap.size, 0, none⟩) zx1 (show ¬ Sx2 (w6.heap.size) from fun q => by have := Qx2.out _ q; omega)).trans cx10
  replace zx1 := Nat.lt_of_lt_of_le zx1 T.size
  replace cx20 := (T.cell (p := ⟨w7.heap.size, 0, none⟩) zx2 (show ¬ Sx2 (w7.heap.size) from fun q => by have := Qx2.out _ q; omega)).trans cx20
  replace cx21 := (T.cell (p := ⟨w7.heap.size, 1, none⟩) zx2 (show ¬ Sx2 (w7.heap.size) from fun q => by have := Qx2.out _ q; omega)).trans cx21
  replace cx22 := (T.cell (p := ⟨w7.heap.size, 2, none⟩) zx2 (show ¬ Sx2 (w7.heap.size) from fun q => by have := Qx2.out _ q; omega)).trans cx22
  replace zx2 := Nat.lt_of_lt_of_le zx2 T.size
  replace cg00 := (T.cell (p := ⟨w8.heap.size, 0, none⟩) zg0 (show ¬ Sx2 (w8.heap.size) from fun q => by have := Qx2.out _ q; omega)).trans cg00
  replace zg0 := Nat.lt_of_lt_of_le zg0 T.size
  replace Og0 : Hid (BookR Sg0 w15 sgr0_0 nr0_0 Xr0_0 Yr0_0 Kr0_0 Vr0_0) := Og0.out.keep T.size (fun k hk hl => T.2.2.2.2 k hl (fun q => by have := Qx2.out k q; have := Qg0.out k hk; omega))
  replace Bs : Below w4.heap.size w4 w15 := Bs.trans (T.below (fun k q => by have := Qx2.out k q; omega) (by omega))
  replace B0 : Below w.heap.size w w15 := B0.trans (T.below (fun k q => by have := Qx2.out k q; omega) (by omega))
  clear T Ox2
  go_wp2_with fail
  refine (eqBook_r nr0_0 Xr0_0 Yr0_0 Kr0_0 Vr0_0 sgr0_0 cgr0_0 sWr0_0 cWr0_0 _ hnr0_0 (Og0.out.row) (RW0.out.below Bs)).mono ?_
  rintro e w16 ⟨rfl, hh⟩
  have hb : Below w15.heap.size w15 w16 := Below.trans (by repeat (first | with_reducible exact Below.refl _ _ | with_reducible refine Below.setCell ?_ (by first | omega | (simp; done) | (simp; omega)) _ | with_reducible refine bDrewN ?_ _ | with_reducible refine Below.drew ?_ | with_reducible refine Below.alloc ?_ (by first | omega | (simp; done) | (simp; omega)) _)) (hh.mono (by first | omega | (simp; done) | (simp; omega)))
  have lw16 : w15.heap.size ≤ w16.heap.size := hb.size
  replace ca00 := (hb.cell (p := ⟨w.heap.size, 0, none⟩) za0).trans ca00
  replace ca01 := (hb.cell (p := ⟨w.heap.size, 1, none⟩) za0).trans ca01
  replace ca02 := (hb.cell (p := ⟨w.heap.size, 2, none⟩) za0).trans ca02
  replace za0 := Nat.lt_of_lt_of_le za0 hb.size
  replace ca10 := (hb.cell (p := ⟨w.heap.size + 1, 0, none⟩) za1).trans ca10
  replace za1 := Nat.lt_of_lt_of_le za1 hb.size
  replace ca20 := (hb.cell (p := ⟨w.heap.size + 1 + 1, 0, none⟩) za2).trans ca20
  replace ca21 := (hb.cell (p := ⟨w.heap.size + 1 + 1, 1, none⟩) za2).trans ca21
  replace ca22 := (hb.cell (p := ⟨w.heap.size + 1 + 1, 2, none⟩) za2).trans ca22
  replace za2 := Nat.lt_of_lt_of_le za2 hb.size
  replace cw00 := (hb.cell (p := ⟨PW0, 0, none⟩) zw0).trans cw00
  replace zw0 := Nat.lt_of_lt_of_le zw0 hb.size
  replace cx00 := (hb.cell (p := ⟨w5.heap.size, 0, none⟩) zx0).trans cx00
  replace cx01 := (hb.cell (p := ⟨w5.heap.size, 1, none⟩) zx0).trans cx01
  replace cx02 := (hb.cell (p := ⟨w5.heap.size, 2, none⟩) zx0).trans cx02
  replace zx0 := Nat.lt_of_lt_of_le zx0 hb.size
  replace cx10 := (hb.cell (p := ⟨w6.heap.size, 0, none⟩) zx1).trans cx10
  replace zx1 := Nat.lt_of_lt_of_le zx1 hb.size
  replace cx20 := (hb.cell (p := ⟨w7.heap.size, 0, none⟩) zx2).trans cx20
  replace cx21 := (hb.cell (p := ⟨w7.heap.size, 1, none⟩) zx2).trans cx21
  replace cx22 := (hb.cell (p := ⟨w7.heap.size, 2, none⟩) zx2).trans cx22
  replace zx2 := Nat.lt_of_lt_of_le zx2 hb.size
  replace cg00 := (hb.cell (p := ⟨w8.heap.size, 0, none⟩) zg0).trans cg00
  replace zg0 := Nat.lt_of_lt_of_le zg0 hb.size
  replace Og0 : Hid (BookR Sg0 w16 sgr0_0 nr0_0 Xr0_0 Yr0_0 Kr0_0 Vr0_0) := Og0.out.below hb
  replace Bs : Below w4.heap.size w4 w16 := Bs.trans (hb.mono Bs.size)
  replace B0 : Below w.heap.size w w16 := B0.trans (hb.mono B0.size)
  clear hb hh
  clear cx00 cx01 cx02 zx0
  clear Qx0
  clear cx10 zx1
  clear Qx1
  clear cx20 cx21 cx22 zx2
  clear Qx2
  go_wp2_with fail
  refine (markBook_x nr0_0 Xr0_0 Yr0_0 Kr0_0 Vr0_0 sgr0_0 cgr0_0 Sg0 (1) _ hnr0_0 (by omega) (by omega) (fun k q => by have := Qg0.out k q; omega) Og0.out).mono ?_
  rintro e w17 ⟨rfl, OM, T⟩
  have lw17 : w16.heap.size ≤ w17.heap.size := T.size
  replace ca00 := (T.cell (p := ⟨w.heap.size, 0, none⟩) za0 (show ¬ Sg0 (w.heap.size) from fun q => by have := Qg0.out _ q; omega)).trans ca00
  replace ca01 := (T.cell (p := ⟨w.heap.size, 1, none⟩) za0 (show ¬ Sg0 (w.heap.size) from fun q => by have := Qg0.out _ q; omega)).trans ca01
  replace ca02 := (T.cell (p := ⟨w.heap.size, 2, none⟩) za0 (show ¬ Sg0 (w.heap.size) from fun q => by have := Qg0.out _ q; omega)).trans ca02
  replace za0 := Nat.lt_of_lt_of_le za0 T.size
  replace ca10 := (T.cell (p := ⟨w.heap.size + 1, 0, none⟩) za1 (show ¬ Sg0 (w.heap.size + 1) from fun q => by have := Qg0.out _ q; omega)).trans ca10
  replace za1 := Nat.lt_of_lt_of_le za1 T.size
  replace ca20 := (T.cell (p := ⟨w.heap.size + 1 + 1, 0, none⟩) za2 (show ¬ Sg0 (w.heap.size + 1 + 1) from fun q => by have := Qg0.out _ q; omega)).trans ca20
  replace ca21 := (T.cell (p := ⟨w.heap.size + 1 + 1, 1, none⟩) za2 (show ¬ Sg0 (w.heap.size + 1 + 1) from fun q => by have := Qg0.out _ q; omega)).trans ca21
  replace ca22 := (T.cell (p := ⟨w.heap.size + 1 + 1, 2, none⟩) za2 (show ¬ Sg0 (w.heap.size + 1 + 1) from fun q => by have := Qg0.out _ q; omega)).trans ca22
  replace za2 := Nat.lt_of_lt_of_le za2 T.size
  replace cw00 := (T.cell (p := ⟨PW0, 0, none⟩) zw0 (show ¬ Sg0 (PW0) from fun q => by have := Qg0.out _ q; omega)).trans cw00
  replace zw0 := Nat.lt_of_lt_of_le zw0 T.size
  replace cg00 := (T.cell (p := ⟨w8.heap.size, 0, none⟩) zg0 (show ¬ Sg0 (w8.heap.size) from fun q => by have := Qg0.out _ q; omega)).trans cg00
  replace zg0 := Nat.lt_of_lt_of_le zg0 T.size
  replace Bs : Below w4.heap.size w4 w17 := Bs.trans (T.below (fun k q => by have := Qg0.out k q; omega) (by omega))
  replace B0 : Below w.heap.size w w17 := B0.trans (T.below (fun k q => by have := Qg0.out k q; omega) (by omega))
  replace Og0 : Hid (BookR Sg0 w17 sgr0_0 nr0_0 (PermX (1) Kr0_0) (PermY (1) Kr0_0) Kr0_0 (PermV (1) Kr0_0)) := OM
  clear T OM
  go_wp2_with fail
  refine (heldBook_r nr0_0 Xr0_0 Yr0_0 Kr0_0 Vr0_0 sgr0_0 cgr0_0 (1) _ hnr0_0 (by omega) (by omega) (Og0.out.row)).mono ?_
  rintro e w18 ⟨rfl, hh⟩
  have hb : Below w17.heap.size w17 w18 := Below.trans (by repeat (first | with_reducible exact Below.refl _ _ | with_reducible refine Below.setCell ?_ (by first | omega | (simp; done) | (simp; omega)) _ | with_reducible refine bDrewN ?_ _ | with_reducible refine Below.drew ?_ | with_reducible refine Below.alloc ?_ (by first | omega | (simp; done) | (simp; omega)) _)) (hh.mono (by first | omega | (simp; done) | (simp; omega)))
  have lw18 : w17.heap.size ≤ w18.heap.size := hb.size
  replace ca00 := (hb.cell (p := ⟨w.heap.size, 0, none⟩) za0).trans ca00
  replace ca01 := (hb.cell (p := ⟨w.heap.size, 1, none⟩) za0).trans ca01
  replace ca02 := (hb.cell (p := ⟨w.heap.size, 2, none⟩) za0).trans ca02
  replace za0 := Nat.lt_of_lt_of_le za0 hb.size
  replace ca10 := (hb.cell (p := ⟨w.heap.size + 1, 0, none⟩) za1).trans ca10
  replace za1 := Nat.lt_of_lt_of_le za1 hb.size
  replace ca20 := (hb.cell (p := ⟨w.heap.size + 1 + 1, 0, none⟩) za2).trans ca20
  replace ca21 := (hb.cell (p := ⟨w.heap.size + 1 + 1, 1, none⟩) za2).trans ca21
  replace ca22 := (hb.cell (p := ⟨w.heap.size + 1 + 1, 2, none⟩) za2).trans ca22
  replace za2 := Nat.lt_of_lt_of_le za2 hb.size
  replace cw00 := (hb.cell (p := ⟨PW0, 0, none⟩) zw0).trans cw00
  replace zw0 := Nat.lt_of_lt_of_le zw0 hb.size
  replace cg00 := (hb.cell (p := ⟨w8.heap.size, 0, none⟩) zg0).trans cg00
  replace zg0 := Nat.lt_of_lt_of_le zg0 hb.size
  replace Og0 : Hid (BookR Sg0 w18 sgr0_0 nr0_0 (PermX (1) Kr0_0) (PermY (1) Kr0_0) Kr0_0 (PermV (1) Kr0_0)) := Og0.out.below hb
  replace Bs : Below w4.heap.size w4 w18 := Bs.trans (hb.mono Bs.size)
  replace B0 : Below w.heap.size w w18 := B0.trans (hb.mono B0.size)
  clear hb hh
  go_upto_region 38 with fail
  have HB : Hid (Below w.heap.size w w18) := B0
  go_cut [18, 19] (fun y0 y1 wx => grantRes w18 nr0_0 Xr0_0 Yr0_0 Kr0_0 Vr0_0 ar1 y0 y1 wx)
  case first =>
    go_region_held3 (fun w' => w'.cell? ⟨w.heap.size, 0, none⟩ = some (.int .i64 a0_0) ∧ w'.cell? ⟨w.heap.size, 1, none⟩ = some (.slice s0_1 n0_1 c0_1) ∧ w'.cell? ⟨w.heap.size, 2, none⟩ = some (.slice s0_2 n0_2 c0_2) ∧ w'.cell? ⟨w.heap.size + 1, 0, none⟩ = some (.slice s1_0 n1_0 c1_0) ∧ w'.cell? ⟨w.heap.size + 1 + 1, 0, none⟩ = some (.int .i64 a2_0) ∧ w'.cell? ⟨w.heap.size + 1 + 1, 1, none⟩ = some (.int .i64 a2_1) ∧ w'.cell? ⟨w.heap.size + 1 + 1, 2, none⟩ = some (.slice s2_2 n2_2 c2_2)) (first | with_reducible exact ⟨ca00, ca01, ca02, ca10, ca20, ca21, ca22⟩ | (refine keepArgs ca00 ca01 ca02 ca10 ca20 ca21 ca22 za0 za1 za2 ?_; exact (by repeat (first | with_reducible exact Below.refl _ _ | with_reducible exact B9 | with_reducible exact B72 | with_reducible exact B71 | with_reducible exact B70 | with_reducible refine Below.setCell ?_ (by first | omega | (simp; done) | (simp; omega)) _ | with_reducible refine bDrewN ?_ _ | with_reducible refine Below.drew ?_ | with_reducible refine Below.alloc ?_ (by first | omega | (simp; done) | (simp; omega)) _)))) (first
      | (go_at_call 16; refine (H2.out sv0_1 sv0_2 sv1_0 sv2_2 _ (PY2_0.out.below (by repeat (first | with_reducible exact Below.refl _ _ | with_reducible refine Below.setCell ?_ (by first | omega | (simp; done) | (simp; omega)) _ | with_reducible refine bDrewN ?_ _ | with_reducible refine Below.drew ?_ | with_reducible refine Below.alloc ?_ (by first | omega | (simp; done) | (simp; omega)) _))) (PY2_1.out.below (by repeat (first | with_reducible exact Below.refl _ _ | with_reducible refine Below.setCell ?_ (by first | omega | (simp; done) | (simp; omega)) _ | with_reducible refine bDrewN ?_ _ | with_reducible refine Below.drew ?_ | with_reducible refine Below.alloc ?_ (by first | omega | (simp; done) | (simp; omega)) _))) (PY2_2.out.below (by repeat (first | with_reducible exact Below.refl _ _ | with_reducible refine Below.setCell ?_ (by first | omega | (simp; done) | (simp; omega)) _ | with_reducible refine bDrewN ?_ _ | with_reducible refine Below.drew ?_ | with_reducible refine Below.alloc ?_ (by first | omega | (simp; done) | (simp; omega)) _)))).mono ?_; rintro e wy3 ⟨shr0_0, chr0_0, Sh0, rfl, QR0, OR0, h9⟩; have hy3 : Below wy2.heap.size wy2 wy3 := Below.trans (by repeat (first | with_reducible exact Below.refl _ _ | with_reducible refine Below.setCell ?_ (by first | omega | (simp; done) | (simp; omega)) _ | with_reducible refine bDrewN ?_ _ | with_reducible refine Below.drew ?_ | with_reducible refine Below.alloc ?_ (by first | omega | (simp; done) | (simp; omega)) _)) (h9.mono (by first | omega | (simp; done) | (simp; omega))); have B9 : Below w18.heap.size w18 wy3 := B72.trans (hy3.mono B72.size); have s9 := B9.size; have sy3 := hy3.size; have HOR0 : Hid (BookR Sh0 wy3 shr0_0 nr0_0 Xr0_0 Yr0_0 Kr0_0 Vr0_0) := OR0; have HQR0 := hidQ QR0; (try have zq0 := Z0_2_0.1); (try have Z0_3_0 := ZA0.keep Z0_2_0 hy3); (try obtain ⟨zp0, zf0, zc0_0⟩ := Z0_3_0); (try have zq0 := Z0_2_1.1); (try have Z0_3_1 := ZA0.keep Z0_2_1 hy3); (try obtain ⟨zp0, zf0, zc0_0⟩ := Z0_3_1); (try have zq0 := Z0_2_2.1); (try have Z0_3_2 := ZA0.keep Z0_2_2 hy3); (try obtain ⟨zp0, zf0, zc0_0⟩ := Z0_3_2); (try have Z0_3_3 := ZA0.at (p := wy2.heap.size) (by first | (simp; done) | fail) (fun o => by first | (simp [go_sem]; done) | fail) (by first | (simp [go_sem]; done) | fail) h9); (try obtain ⟨zp0, zf0, zc0_0⟩ := Z0_3_3); clear h9 OR0 QR0)
      | (go_at_call 15; have hq2 := B71; refine (toPrm_r a2_0 a2_1 n2_2 V2_2 s2_2 c2_2 _ hn2_2 (HR2.out.below (HB.out.trans (Below.mono (by repeat (first | with_reducible exact Below.refl _ _ | with_reducible exact B71 | with_reducible refine Below.setCell ?_ (by first | omega | (simp; done) | (simp; omega)) _ | with_reducible refine bDrewN ?_ _ | with_reducible refine Below.drew ?_ | with_reducible refine Below.alloc ?_ (by first | omega | (simp; done) | (simp; omega)) _)) HB.out.size)))).mono ?_; rintro e wy2 ⟨sv2_2, Sv2, rfl, -, OY2, h72⟩; have hy2 : Below wy1.heap.size wy1 wy2 := Below.trans (by repeat (first | with_reducible exact Below.refl _ _ | with_reducible refine Below.setCell ?_ (by first | omega | (simp; done) | (simp; omega)) _ | with_reducible refine bDrewN ?_ _ | with_reducible refine Below.drew ?_ | with_reducible refine Below.alloc ?_ (by first | omega | (simp; done) | (simp; omega)) _)) (h72.mono (by first | omega | (simp; done) | (simp; omega))); have B72 : Below w18.heap.size w18 wy2 := B71.trans (hy2.mono B71.size); have s72 := B72.size; have sy2 := hy2.size; have PY2_2 : Hid (RowPrm wy2 sv2_2 n2_2 V2_2) := OY2.row; have PY2_0 : Hid (RowNet wy2 sv0_1 n0_1 V0_1 sv0_2 n0_2 V0_2) := PY1_0.out.below hy2; have PY2_1 : Hid (RowBook wy2 sv1_0 n1_0 X1_0 Y1_0 K1_0 V1_0) := PY1_1.out.below hy2; (try have Z0_2_0 := ZA0.keep Z0_1_0 hy2); (try have Z0_2_1 := ZA0.keep Z0_1_1 hy2); (try have Z0_2_2 := ZA0.at (p := wy1.heap.size) (by first | (simp; done) | fail) (fun o => by first | (simp [go_sem]; done) | fail) (by first | (simp [go_sem]; done) | fail) h72); clear h72 OY2)
      | (go_at_call 14; have hq1 := B70; refine (toBook_r n1_0 X1_0 Y1_0 K1_0 V1_0 s1_0 c1_0 _ hn1_0 (HR1.out.below (HB.out.trans (Below.mono (by repeat (first | with_reducible exact Below.refl _ _ | with_reducible exact B70 | with_reducible refine Below.setCell ?_ (by first | omega | (simp; done) | (simp; omega)) _ | with_reducible refine bDrewN ?_ _ | with_reducible refine Below.drew ?_ | with_reducible refine Below.alloc ?_ (by first | omega | (simp; done) | (simp; omega)) _)) HB.out.size)))).mono ?_; rintro e wy1 ⟨sv1_0, Sv1, rfl, -, OY1, h71⟩; have hy1 : Below wy0.heap.size wy0 wy1 := Below.trans (by repeat (first | with_reducible exact Below.refl _ _ | with_reducible refine Below.setCell ?_ (by first | omega | (simp; done) | (simp; omega)) _ | with_reducible refine bDrewN ?_ _ | with_reducible refine Below.drew ?_ | with_reducible refine Below.alloc ?_ (by first | omega | (simp; done) | (simp; omega)) _)) (h71.mono (by first | omega | (simp; done) | (simp; omega))); have B71 : Below w18.heap.size w18 wy1 := B70.trans (hy1.mono B70.size); have s71 := B71.size; have sy1 := hy1.size; have PY1_1 : Hid (RowBook wy1 sv1_0 n1_0 X1_0 Y1_0 K1_0 V1_0) := OY1.row; have PY1_0 : Hid (RowNet wy1 sv0_1 n0_1 V0_1 sv0_2 n0_2 V0_2) := PY0_0.out.below hy1; (try have Z0_1_0 := ZA0.keep Z0_0_0 hy1); (try have Z0_1_1 := ZA0.at (p := wy0.heap.size) (by first | (simp; done) | fail) (fun o => by first | (simp [go_sem]; done) | fail) (by first | (simp [go_sem]; done) | fail) h71); clear h71 OY1)
      | (go_at_call 13; refine (toNet_r a0_0 n0_1 V0_1 n0_2 V0_2 s0_1 c0_1 s0_2 c0_2 _ hn0_1 hn0_2 (HR0.out.below (HB.out.trans (Below.mono (by repeat (first | with_reducible exact Below.refl _ _ | with_reducible refine Below.setCell ?_ (by first | omega | (simp; done) | (simp; omega)) _ | with_reducible refine bDrewN ?_ _ | with_reducible refine Below.drew ?_ | with_reducible refine Below.alloc ?_ (by first | omega | (simp; done) | (simp; omega)) _)) HB.out.size)))).mono ?_; rintro e wy0 ⟨sv0_1, sv0_2, Sv0, rfl, -, OY0, h70⟩; have hy0 : Below w18.heap.size w18 wy0 := Below.trans (by repeat (first | with_reducible exact Below.refl _ _ | with_reducible refine Below.setCell ?_ (by first | omega | (simp; done) | (simp; omega)) _ | with_reducible refine bDrewN ?_ _ | with_reducible refine Below.drew ?_ | with_reducible refine Below.alloc ?_ (by first | omega | (simp; done) | (simp; omega)) _)) (h70.mono (by first | omega | (simp; done) | (simp; omega))); have B70 : Below w18.heap.size w18 wy0 := hy0; have s70 := B70.size; have sy0 := hy0.size; have PY0_0 : Hid (RowNet wy0 sv0_1 n0_1 V0_1 sv0_2 n0_2 V0_2) := OY0.row; (try have Z0_0_0 := ZA0.at (p := w18.heap.size) (by first | (simp; done) | fail) (fun o => by first | (simp [go_sem]; done) | fail) (by first | (simp [go_sem]; done) | fail) h70); clear h70 OY0))
    all_goals
      go_wp2_with fail
      go_meet
      refine ⟨_, shr0_0, chr0_0, rfl, ?_, ?_, ?_, rfl, ?_, ?_⟩
      · first | (simp [go_sem, zc0_0]; done) | (simp [go_sem]; done)
      · first | (simp; done) | (simp; omega) | omega
      · omega
      · first | exact HOR0.out.row | exact (HOR0.out.below (below0 _ _)).row | exact (HOR0.out.keep (by simp) (fun k hk hl => set_block hl (by have := HQR0.out k hk; first | omega | (simp at this; omega)))).row
      · exact (by repeat (first | with_reducible exact Below.refl _ _ | with_reducible exact B9 | with_reducible refine Below.setCell ?_ (by first | omega | (simp; done) | (simp; omega)) _ | with_reducible refine bDrewN ?_ _ | with_reducible refine Below.drew ?_ | with_reducible refine Below.alloc ?_ (by first | omega | (simp; done) | (simp; omega)) _))
  obtain ⟨Ph0, shr0_0, chr0_0, rfl, ch00, zh0, loh0, rfl, Rh0, hb⟩ := hcut
  rename World => w19
  have lw19 : w18.heap.size ≤ w19.heap.size := hb.size
  have yh0 := zh0
  replace Rh0 : Hid (RowBook w19 shr0_0 nr0_0 Xr0_0 Yr0_0 Kr0_0 Vr0_0) := Rh0
  replace ca00 := (hb.cell (p := ⟨w.heap.size, 0, none⟩) za0).trans ca00
  replace ca01 := (hb.cell (p := ⟨w.heap.size, 1, none⟩) za0).trans ca01
  replace ca02 := (hb.cell (p := ⟨w.heap.size, 2, none⟩) za0).trans ca02
  replace za0 := Nat.lt_of_lt_of_le za0 hb.size
  replace ca10 := (hb.cell (p := ⟨w.heap.size + 1, 0, none⟩) za1).trans ca10
  replace za1 := Nat.lt_of_lt_of_le za1 hb.size
  replace ca20 := (hb.cell (p := ⟨w.heap.size + 1 + 1, 0, none⟩) za2).trans ca20
  replace ca21 := (hb.cell (p := ⟨w.heap.size + 1 + 1, 1, none⟩) za2).trans ca21
  replace ca22 := (hb.cell (p := ⟨w.heap.size + 1 + 1, 2, none⟩) za2).trans ca22
  replace za2 := Nat.lt_of_lt_of_le za2 hb.size
  replace cw00 := (hb.cell (p := ⟨PW0, 0, none⟩) zw0).trans cw00
  replace zw0 := Nat.lt_of_lt_of_le zw0 hb.size
  replace cg00 := (hb.cell (p := ⟨w8.heap.size, 0, none⟩) zg0).trans cg00
  replace zg0 := Nat.lt_of_lt_of_le zg0 hb.size
  replace Og0 : Hid (BookR Sg0 w19 sgr0_0 nr0_0 (PermX (1) Kr0_0) (PermY (1) Kr0_0) Kr0_0 (PermV (1) Kr0_0)) := Og0.out.below hb
  replace Bs : Below w4.heap.size w4 w19 := Bs.trans (hb.mono Bs.size)
  replace B0 : Below w.heap.size w w19 := B0.trans (hb.mono B0.size)
  clear hb HB
  have Bh : Below w19.heap.size w19 w19 := Below.refl _ _
  go_wp2_with fail
  refine (eqBook_r nr0_0 Xr0_0 Yr0_0 Kr0_0 Vr0_0 shr0_0 chr0_0 sWr0_0 cWr0_0 _ hnr0_0 ((Rh0.out.below (Below.mono (B := w19.heap.size) (Bh) (Nat.le_refl _)))) (RW0.out.below Bs)).mono ?_
  rintro e w20 ⟨rfl, hh⟩
  have hb : Below w19.heap.size w19 w20 := Below.trans (by repeat (first | with_reducible exact Below.refl _ _ | with_reducible refine Below.setCell ?_ (by first | omega | (simp; done) | (simp; omega)) _ | with_reducible refine bDrewN ?_ _ | with_reducible refine Below.drew ?_ | with_reducible refine Below.alloc ?_ (by first | omega | (simp; done) | (simp; omega)) _)) (hh.mono (by first | omega | (simp; done) | (simp; omega)))
  have lw20 : w19.heap.size ≤ w20.heap.size := hb.size
  replace ca00 := (hb.cell (p := ⟨w.heap.size, 0, none⟩) za0).trans ca00
  replace ca01 := (hb.cell (p := ⟨w.heap.size, 1, none⟩) za0).trans ca01
  replace ca02 := (hb.cell (p := ⟨w.heap.size, 2, none⟩) za0).trans ca02
  replace za0 := Nat.lt_of_lt_of_le za0 hb.size
  replace ca10 := (hb.cell (p := ⟨w.heap.size + 1, 0, none⟩) za1).trans ca10
  replace za1 := Nat.lt_of_lt_of_le za1 hb.size
  replace ca20 := (hb.cell (p := ⟨w.heap.size + 1 + 1, 0, none⟩) za2).trans ca20
  replace ca21 := (hb.cell (p := ⟨w.heap.size + 1 + 1, 1, none⟩) za2).trans ca21
  replace ca22 := (hb.cell (p := ⟨w.heap.size + 1 + 1, 2, none⟩) za2).trans ca22
  replace za2 := Nat.lt_of_lt_of_le za2 hb.size
  replace cw00 := (hb.cell (p := ⟨PW0, 0, none⟩) zw0).trans cw00
  replace zw0 := Nat.lt_of_lt_of_le zw0 hb.size
  replace cg00 := (hb.cell (p := ⟨w8.heap.size, 0, none⟩) zg0).trans cg00
  replace zg0 := Nat.lt_of_lt_of_le zg0 hb.size
  replace ch00 := (hb.cell (p := ⟨Ph0, 0, none⟩) zh0).trans ch00
  replace zh0 := Nat.lt_of_lt_of_le zh0 hb.size
  replace Og0 : Hid (BookR Sg0 w20 sgr0_0 nr0_0 (PermX (1) Kr0_0) (PermY (1) Kr0_0) Kr0_0 (PermV (1) Kr0_0)) := Og0.out.below hb
  replace Bs : Below w4.heap.size w4 w20 := Bs.trans (hb.mono Bs.size)
  replace B0 : Below w.heap.size w w20 := B0.trans (hb.mono B0.size)
  replace Bh : Below w19.heap.size w19 w20 := Bh.trans (hb.mono Bh.size)
  clear hb hh
  go_wp2_with fail
  refine (heldBook_r nr0_0 Xr0_0 Yr0_0 Kr0_0 Vr0_0 sgr0_0 cgr0_0 (1) _ hnr0_0 (by omega) (by omega) (Og0.out.row)).mono ?_
  rintro e w21 ⟨rfl, hh⟩
  have hb : Below w20.heap.size w20 w21 := Below.trans (by repeat (first | with_reducible exact Below.refl _ _ | with_reducible refine Below.setCell ?_ (by first | omega | (simp; done) | (simp; omega)) _ | with_reducible refine bDrewN ?_ _ | with_reducible refine Below.drew ?_ | with_reducible refine Below.alloc ?_ (by first | omega | (simp; done) | (simp; omega)) _)) (hh.mono (by first | omega | (simp; done) | (simp; omega)))
  have lw21 : w20.heap.size ≤ w21.heap.size := hb.size
  replace ca00 := (hb.cell (p := ⟨w.heap.size, 0, none⟩) za0).trans ca00
  replace ca01 := (hb.cell (p := ⟨w.heap.size, 1, none⟩) za0).trans ca01
  replace ca02 := (hb.cell (p := ⟨w.heap.size, 2, none⟩) za0).trans ca02
  replace za0 := Nat.lt_of_lt_of_le za0 hb.size
  replace ca10 := (hb.cell (p := ⟨w.heap.size + 1, 0, none⟩) za1).trans ca10
  replace za1 := Nat.lt_of_lt_of_le za1 hb.size
  replace ca20 := (hb.cell (p := ⟨w.heap.size + 1 + 1, 0, none⟩) za2).trans ca20
  replace ca21 := (hb.cell (p := ⟨w.heap.size + 1 + 1, 1, none⟩) za2).trans ca21
  replace ca22 := (hb.cell (p := ⟨w.heap.size + 1 + 1, 2, none⟩) za2).trans ca22
  replace za2 := Nat.lt_of_lt_of_le za2 hb.size
  replace cw00 := (hb.cell (p := ⟨PW0, 0, none⟩) zw0).trans cw00
  replace zw0 := Nat.lt_of_lt_of_le zw0 hb.size
  replace cg00 := (hb.cell (p := ⟨w8.heap.size, 0, none⟩) zg0).trans cg00
  replace zg0 := Nat.lt_of_lt_of_le zg0 hb.size
  replace ch00 := (hb.cell (p := ⟨Ph0, 0, none⟩) zh0).trans ch00
  replace zh0 := Nat.lt_of_lt_of_le zh0 hb.size
  replace Og0 : Hid (BookR Sg0 w21 sgr0_0 nr0_0 (PermX (1) Kr0_0) (PermY (1) Kr0_0) Kr0_0 (PermV (1) Kr0_0)) := Og0.out.below hb
  replace Bs : Below w4.heap.size w4 w21 := Bs.trans (hb.mono Bs.size)
  replace B0 : Below w.heap.size w w21 := B0.trans (hb.mono B0.size)
  clear hb hh
  go_wp2
  go_ret
  exact ⟨rfl, B0⟩
set_option maxHeartbeats 1600000 in
theorem grant_farn0_1 (w : World) (a0_0 : Int) (n0_1 : Nat) (V0_1 : Nat → Int × Int) (n0_2 : Nat) (V0_2 : Nat → Int) (s0_1 : Option Addr) (c0_1 : Nat) (s0_2 : Option Addr) (c0_2 : Nat) (n1_0 : Nat) (X1_0 : Nat → Int) (Y1_0 : Nat → Int) (K1_0 : Nat → Nat) (V1_0 : Nat → Nat → Int) (s1_0 : Option Addr) (c1_0 : Nat) (a2_0 : Int) (a2_1 : Int) (n2_2 : Nat) (V2_2 : Nat → Int) (s2_2 : Option Addr) (c2_2 : Nat)   (g : 1048576 < (n0_1 : Int)) (gg : (n0_1 : Int) ≤ 9223372036854775807)  :
    Calls Try.prog 3 #[.agg #[.int .i64 a0_0, .slice s0_1 n0_1 c0_1, .slice s0_2 n0_2 c0_2], .agg #[.slice s1_0 n1_0 c1_0], .agg #[.int .i64 a2_0, .int .i64 a2_1, .slice s2_2 n2_2 c2_2]] w fun e w' => e = .returned (.bool true) ∧ Below w.heap.size w w' := by
  go_enter Try.func3, Try.ntmps3
  go_wp2_with fail
  refine (szNet_off1 a0_0 n0_1 V0_1 n0_2 V0_2 s0_1 c0_1 s0_2 c0_2 _ _ (by omega) (by omega) (by omega) (by omega)).mono ?_
  rintro e u1 ⟨rfl, hh⟩
  have hb : Below w.heap.size w u1 := Below.trans (by repeat (first | with_reducible exact Below.refl _ _ | with_reducible refine Below.setCell ?_ (by first | omega | (simp; done) | (simp; omega)) _ | with_reducible refine bDrewN ?_ _ | with_reducible refine Below.drew ?_ | with_reducible refine Below.alloc ?_ (by first | omega | (simp; done) | (simp; omega)) _)) (hh.mono (by first | omega | (simp; done) | (simp; omega)))
  have ca00 : u1.cell? ⟨w.heap.size, 0, none⟩ = some (.int .i64 a0_0) := by rw [hh.cell (by first | omega | (simp; done) | (simp; omega))]; first | (simp; done) | (simp [go_sem]; done)
  have ca01 : u1.cell? ⟨w.heap.size, 1, none⟩ = some (.slice s0_1 n0_1 c0_1) := by rw [hh.cell (by first | omega | (simp; done) | (simp; omega))]; first | (simp; done) | (simp [go_sem]; done)
  have ca02 : u1.cell? ⟨w.heap.size, 2, none⟩ = some (.slice s0_2 n0_2 c0_2) := by rw [hh.cell (by first | omega | (simp; done) | (simp; omega))]; first | (simp; done) | (simp [go_sem]; done)
  have za0 : w.heap.size < u1.heap.size := by have := hh.size; simp at this; omega
  have ca10 : u1.cell? ⟨w.heap.size + 1, 0, none⟩ = some (.slice s1_0 n1_0 c1_0) := by rw [hh.cell (by first | omega | (simp; done) | (simp; omega))]; first | (simp; done) | (simp [go_sem]; done)
  have za1 : w.heap.size + 1 < u1.heap.size := by have := hh.size; simp at this; omega
  have ca20 : u1.cell? ⟨w.heap.size + 1 + 1, 0, none⟩ = some (.int .i64 a2_0) := by rw [hh.cell (by first | omega | (simp; done) | (simp; omega))]; first | (simp; done) | (simp [go_sem]; done)
  have ca21 : u1.cell? ⟨w.heap.size + 1 + 1, 1, none⟩ = some (.int .i64 a2_1) := by rw [hh.cell (by first | omega | (simp; done) | (simp; omega))]; first | (simp; done) | (simp [go_sem]; done)
  have ca22 : u1.cell? ⟨w.heap.size + 1 + 1, 2, none⟩ = some (.slice s2_2 n2_2 c2_2) := by rw [hh.cell (by first | omega | (simp; done) | (simp; omega))]; first | (simp; done) | (simp [go_sem]; done)
  have za2 : w.heap.size + 1 + 1 < u1.heap.size := by have := hh.size; simp at this; omega
  have B0 := hb
  clear hb hh
  go_wp2
  go_ret
  exact ⟨rfl, (by repeat (first | with_reducible exact Below.refl _ _ | with_reducible exact B0 | with_reducible refine Below.setCell ?_ (by first | omega | (simp; done) | (simp; omega)) _ | with_reducible refine bDrewN ?_ _ | with_reducible refine Below.drew ?_ | with_reducible refine Below.alloc ?_ (by first | omega | (simp; done) | (simp; omega)) _))⟩
set_option maxHeartbeats 1600000 in
theorem grant_farn0_2 (w : World) (a0_0 : Int) (n0_1 : Nat) (V0_1 : Nat → Int × Int) (n0_2 : Nat) (V0_2 : Nat → Int) (s0_1 : Option Addr) (c0_1 : Nat) (s0_2 : Option Addr) (c0_2 : Nat) (n1_0 : Nat) (X1_0 : Nat → Int) (Y1_0 : Nat → Int) (K1_0 : Nat → Nat) (V1_0 : Nat → Nat → Int) (s1_0 : Option Addr) (c1_0 : Nat) (a2_0 : Int) (a2_1 : Int) (n2_2 : Nat) (V2_2 : Nat → Int) (s2_2 : Option Addr) (c2_2 : Nat)  (gn0_1 : (n0_1 : Int) ≤ 1048576) (g : 1048576 - n0_1 < (n0_2 : Int)) (gg : (n0_2 : Int) ≤ 9223372036854775807)  :
    Calls Try.prog 3 #[.agg #[.int .i64 a0_0, .slice s0_1 n0_1 c0_1, .slice s0_2 n0_2 c0_2], .agg #[.slice s1_0 n1_0 c1_0], .agg #[.int .i64 a2_0, .int .i64 a2_1, .slice s2_2 n2_2 c2_2]] w fun e w' => e = .returned (.bool true) ∧ Below w.heap.size w w' := by
  go_enter Try.func3, Try.ntmps3
  go_wp2_with fail
  refine (szNet_off2 a0_0 n0_1 V0_1 n0_2 V0_2 s0_1 c0_1 s0_2 c0_2 _ _ (by omega) (by omega) (by omega) (by omega) (by omega)).mono ?_
  rintro e u1 ⟨rfl, hh⟩
  have hb : Below w.heap.size w u1 := Below.trans (by repeat (first | with_reducible exact Below.refl _ _ | with_reducible refine Below.setCell ?_ (by first | omega | (simp; done) | (simp; omega)) _ | with_reducible refine bDrewN ?_ _ | with_reducible refine Below.drew ?_ | with_reducible refine Below.alloc ?_ (by first | omega | (simp; done) | (simp; omega)) _)) (hh.mono (by first | omega | (simp; done) | (simp; omega)))
  have ca00 : u1.cell? ⟨w.heap.size, 0, none⟩ = some (.int .i64 a0_0) := by rw [hh.cell (by first | omega | (simp; done) | (simp; omega))]; first | (simp; done) | (simp [go_sem]; done)
  have ca01 : u1.cell? ⟨w.heap.size, 1, none⟩ = some (.slice s0_1 n0_1 c0_1) := by rw [hh.cell (by first | omega | (simp; done) | (simp; omega))]; first | (simp; done) | (simp [go_sem]; done)
  have ca02 : u1.cell? ⟨w.heap.size, 2, none⟩ = some (.slice s0_2 n0_2 c0_2) := by rw [hh.cell (by first | omega | (simp; done) | (simp; omega))]; first | (simp; done) | (simp [go_sem]; done)
  have za0 : w.heap.size < u1.heap.size := by have := hh.size; simp at this; omega
  have ca10 : u1.cell? ⟨w.heap.size + 1, 0, none⟩ = some (.slice s1_0 n1_0 c1_0) := by rw [hh.cell (by first | omega | (simp; done) | (simp; omega))]; first | (simp; done) | (simp [go_sem]; done)
  have za1 : w.heap.size + 1 < u1.heap.size := by have := hh.size; simp at this; omega
  have ca20 : u1.cell? ⟨w.heap.size + 1 + 1, 0, none⟩ = some (.int .i64 a2_0) := by rw [hh.cell (by first | omega | (simp; done) | (simp; omega))]; first | (simp; done) | (simp [go_sem]; done)
  have ca21 : u1.cell? ⟨w.heap.size + 1 + 1, 1, none⟩ = some (.int .i64 a2_1) := by rw [hh.cell (by first | omega | (simp; done) | (simp; omega))]; first | (simp; done) | (simp [go_sem]; done)
  have ca22 : u1.cell? ⟨w.heap.size + 1 + 1, 2, none⟩ = some (.slice s2_2 n2_2 c2_2) := by rw [hh.cell (by first | omega | (simp; done) | (simp; omega))]; first | (simp; done) | (simp [go_sem]; done)
  have za2 : w.heap.size + 1 + 1 < u1.heap.size := by have := hh.size; simp at this; omega
  have B0 := hb
  clear hb hh
  go_wp2
  go_ret
  exact ⟨rfl, (by repeat (first | with_reducible exact Below.refl _ _ | with_reducible exact B0 | with_reducible refine Below.setCell ?_ (by first | omega | (simp; done) | (simp; omega)) _ | with_reducible refine bDrewN ?_ _ | with_reducible refine Below.drew ?_ | with_reducible refine Below.alloc ?_ (by first | omega | (simp; done) | (simp; omega)) _))⟩
set_option maxHeartbeats 1600000 in
theorem grant_farn1_0 (w : World) (a0_0 : Int) (n0_1 : Nat) (V0_1 : Nat → Int × Int) (n0_2 : Nat) (V0_2 : Nat → Int) (s0_1 : Option Addr) (c0_1 : Nat) (s0_2 : Option Addr) (c0_2 : Nat) (n1_0 : Nat) (X1_0 : Nat → Int) (Y1_0 : Nat → Int) (K1_0 : Nat → Nat) (V1_0 : Nat → Nat → Int) (s1_0 : Option Addr) (c1_0 : Nat) (a2_0 : Int) (a2_1 : Int) (n2_2 : Nat) (V2_2 : Nat → Int) (s2_2 : Option Addr) (c2_2 : Nat)  (gn0_1 : (n0_1 : Int) ≤ 1048576) (gn0_2 : (n0_2 : Int) ≤ 1048576 - n0_1) (g : 1048576 - n0_1 - n0_2 < ((n1_0 : Int) + (suK K1_0 n1_0 : Int))) (gg : (n1_0 : Int) ≤ 9223372036854775807) (k63 : ∀ i, i < n1_0 → (K1_0 i : Int) ≤ 9223372036854775807) (HR1 : Hid (RowBook w s1_0 n1_0 X1_0 Y1_0 K1_0 V1_0)) :
    Calls Try.prog 3 #[.agg #[.int .i64 a0_0, .slice s0_1 n0_1 c0_1, .slice s0_2 n0_2 c0_2], .agg #[.slice s1_0 n1_0 c1_0], .agg #[.int .i64 a2_0, .int .i64 a2_1, .slice s2_2 n2_2 c2_2]] w fun e w' => e = .returned (.bool true) ∧ Below w.heap.size w w' := by
  go_enter Try.func3, Try.ntmps3
  go_wp2_with fail
  refine (szNet_on a0_0 n0_1 V0_1 n0_2 V0_2 s0_1 c0_1 s0_2 c0_2 _ _ (by omega) (by omega) (by omega) (by omega)).mono ?_
  rintro e u1 ⟨rfl, hh⟩
  have hb : Below w.heap.size w u1 := Below.trans (by repeat (first | with_reducible exact Below.refl _ _ | with_reducible refine Below.setCell ?_ (by first | omega | (simp; done) | (simp; omega)) _ | with_reducible refine bDrewN ?_ _ | with_reducible refine Below.drew ?_ | with_reducible refine Below.alloc ?_ (by first | omega | (simp; done) | (simp; omega)) _)) (hh.mono (by first | omega | (simp; done) | (simp; omega)))
  have ca00 : u1.cell? ⟨w.heap.size, 0, none⟩ = some (.int .i64 a0_0) := by rw [hh.cell (by first | omega | (simp; done) | (simp; omega))]; first | (simp; done) | (simp [go_sem]; done)
  have ca01 : u1.cell? ⟨w.heap.size, 1, none⟩ = some (.slice s0_1 n0_1 c0_1) := by rw [hh.cell (by first | omega | (simp; done) | (simp; omega))]; first | (simp; done) | (simp [go_sem]; done)
  have ca02 : u1.cell? ⟨w.heap.size, 2, none⟩ = some (.slice s0_2 n0_2 c0_2) := by rw [hh.cell (by first | omega | (simp; done) | (simp; omega))]; first | (simp; done) | (simp [go_sem]; done)
  have za0 : w.heap.size < u1.heap.size := by have := hh.size; simp at this; omega
  have ca10 : u1.cell? ⟨w.heap.size + 1, 0, none⟩ = some (.slice s1_0 n1_0 c1_0) := by rw [hh.cell (by first | omega | (simp; done) | (simp; omega))]; first | (simp; done) | (simp [go_sem]; done)
  have za1 : w.heap.size + 1 < u1.heap.size := by have := hh.size; simp at this; omega
  have ca20 : u1.cell? ⟨w.heap.size + 1 + 1, 0, none⟩ = some (.int .i64 a2_0) := by rw [hh.cell (by first | omega | (simp; done) | (simp; omega))]; first | (simp; done) | (simp [go_sem]; done)
  have ca21 : u1.cell? ⟨w.heap.size + 1 + 1, 1, none⟩ = some (.int .i64 a2_1) := by rw [hh.cell (by first | omega | (simp; done) | (simp; omega))]; first | (simp; done) | (simp [go_sem]; done)
  have ca22 : u1.cell? ⟨w.heap.size + 1 + 1, 2, none⟩ = some (.slice s2_2 n2_2 c2_2) := by rw [hh.cell (by first | omega | (simp; done) | (simp; omega))]; first | (simp; done) | (simp [go_sem]; done)
  have za2 : w.heap.size + 1 + 1 < u1.heap.size := by have := hh.size; simp at this; omega
  have B0 := hb
  clear hb hh
  go_wp2_with fail
  refine (szBook_off0 n1_0 X1_0 Y1_0 K1_0 V1_0 s1_0 c1_0 _ _ (by omega) (by omega) (by omega) gg k63 (HR1.out.below (by repeat (first | with_reducible exact Below.refl _ _ | with_reducible exact B0 | with_reducible refine Below.setCell ?_ (by first | omega | (simp; done) | (simp; omega)) _ | with_reducible refine bDrewN ?_ _ | with_reducible refine Below.drew ?_ | with_reducible refine Below.alloc ?_ (by first | omega | (simp; done) | (simp; omega)) _)))).mono ?_
  rintro e u2 ⟨rfl, hh⟩
  have hb : Below u1.heap.size u1 u2 := Below.trans (by repeat (first | with_reducible exact Below.refl _ _ | with_reducible refine Below.setCell ?_ (by first | omega | (simp; done) | (simp; omega)) _ | with_reducible refine bDrewN ?_ _ | with_reducible refine Below.drew ?_ | with_reducible refine Below.alloc ?_ (by first | omega | (simp; done) | (simp; omega)) _)) (hh.mono (by first | omega | (simp; done) | (simp; omega)))
  replace ca00 := (hb.cell (p := ⟨w.heap.size, 0, none⟩) za0).trans ca00
  replace ca01 := (hb.cell (p := ⟨w.heap.size, 1, none⟩) za0).trans ca01
  replace ca02 := (hb.cell (p := ⟨w.heap.size, 2, none⟩) za0).trans ca02
  replace za0 := Nat.lt_of_lt_of_le za0 hb.size
  replace ca10 := (hb.cell (p := ⟨w.heap.size + 1, 0, none⟩) za1).trans ca10
  replace za1 := Nat.lt_of_lt_of_le za1 hb.size
  replace ca20 := (hb.cell (p := ⟨w.heap.size + 1 + 1, 0, none⟩) za2).trans ca20
  replace ca21 := (hb.cell (p := ⟨w.heap.size + 1 + 1, 1, none⟩) za2).trans ca21
  replace ca22 := (hb.cell (p := ⟨w.heap.size + 1 + 1, 2, none⟩) za2).trans ca22
  replace za2 := Nat.lt_of_lt_of_le za2 hb.size
  replace B0 : Below w.heap.size w u2 := B0.trans (hb.mono B0.size)
  clear hb hh
  go_wp2
  go_ret
  exact ⟨rfl, (by repeat (first | with_reducible exact Below.refl _ _ | with_reducible exact B0 | with_reducible refine Below.setCell ?_ (by first | omega | (simp; done) | (simp; omega)) _ | with_reducible refine bDrewN ?_ _ | with_reducible refine Below.drew ?_ | with_reducible refine Below.alloc ?_ (by first | omega | (simp; done) | (simp; omega)) _))⟩
set_option maxHeartbeats 1600000 in
theorem grant_farn2_2 (w : World) (a0_0 : Int) (n0_1 : Nat) (V0_1 : Nat → Int × Int) (n0_2 : Nat) (V0_2 : Nat → Int) (s0_1 : Option Addr) (c0_1 : Nat) (s0_2 : Option Addr) (c0_2 : Nat) (n1_0 : Nat) (X1_0 : Nat → Int) (Y1_0 : Nat → Int) (K1_0 : Nat → Nat) (V1_0 : Nat → Nat → Int) (s1_0 : Option Addr) (c1_0 : Nat) (a2_0 : Int) (a2_1 : Int) (n2_2 : Nat) (V2_2 : Nat → Int) (s2_2 : Option Addr) (c2_2 : Nat)  (gn0_1 : (n0_1 : Int) ≤ 1048576) (gn0_2 : (n0_2 : Int) ≤ 1048576 - n0_1) (gn1_0 : ((n1_0 : Int) + (suK K1_0 n1_0 : Int)) ≤ 1048576 - n0_1 - n0_2) (g : 1048576 - n0_1 - n0_2 - ((n1_0 : Int) + (suK K1_0 n1_0 : Int)) < (n2_2 : Int)) (gg : (n2_2 : Int) ≤ 9223372036854775807) (HR1 : Hid (RowBook w s1_0 n1_0 X1_0 Y1_0 K1_0 V1_0)) :
    Calls Try.prog 3 #[.agg #[.int .i64 a0_0, .slice s0_1 n0_1 c0_1, .slice s0_2 n0_2 c0_2], .agg #[.slice s1_0 n1_0 c1_0], .agg #[.int .i64 a2_0, .int .i64 a2_1, .slice s2_2 n2_2 c2_2]] w fun e w' => e = .returned (.bool true) ∧ Below w.heap.size w w' := by
  go_enter Try.func3, Try.ntmps3
  go_wp2_with fail
  refine (szNet_on a0_0 n0_1 V0_1 n0_2 V0_2 s0_1 c0_1 s0_2 c0_2 _ _ (by omega) (by omega) (by omega) (by omega)).mono ?_
  rintro e u1 ⟨rfl, hh⟩
  have hb : Below w.heap.size w u1 := Below.trans (by repeat (first | with_reducible exact Below.refl _ _ | with_reducible refine Below.setCell ?_ (by first | omega | (simp; done) | (simp; omega)) _ | with_reducible refine bDrewN ?_ _ | with_reducible refine Below.drew ?_ | with_reducible refine Below.alloc ?_ (by first | omega | (simp; done) | (simp; omega)) _)) (hh.mono (by first | omega | (simp; done) | (simp; omega)))
  have ca00 : u1.cell? ⟨w.heap.size, 0, none⟩ = some (.int .i64 a0_0) := by rw [hh.cell (by first | omega | (simp; done) | (simp; omega))]; first | (simp; done) | (simp [go_sem]; done)
  have ca01 : u1.cell? ⟨w.heap.size, 1, none⟩ = some (.slice s0_1 n0_1 c0_1) := by rw [hh.cell (by first | omega | (simp; done) | (simp; omega))]; first | (simp; done) | (simp [go_sem]; done)
  have ca02 : u1.cell? ⟨w.heap.size, 2, none⟩ = some (.slice s0_2 n0_2 c0_2) := by rw [hh.cell (by first | omega | (simp; done) | (simp; omega))]; first | (simp; done) | (simp [go_sem]; done)
  have za0 : w.heap.size < u1.heap.size := by have := hh.size; simp at this; omega
  have ca10 : u1.cell? ⟨w.heap.size + 1, 0, none⟩ = some (.slice s1_0 n1_0 c1_0) := by rw [hh.cell (by first | omega | (simp; done) | (simp; omega))]; first | (simp; done) | (simp [go_sem]; done)
  have za1 : w.heap.size + 1 < u1.heap.size := by have := hh.size; simp at this; omega
  have ca20 : u1.cell? ⟨w.heap.size + 1 + 1, 0, none⟩ = some (.int .i64 a2_0) := by rw [hh.cell (by first | omega | (simp; done) | (simp; omega))]; first | (simp; done) | (simp [go_sem]; done)
  have ca21 : u1.cell? ⟨w.heap.size + 1 + 1, 1, none⟩ = some (.int .i64 a2_1) := by rw [hh.cell (by first | omega | (simp; done) | (simp; omega))]; first | (simp; done) | (simp [go_sem]; done)
  have ca22 : u1.cell? ⟨w.heap.size + 1 + 1, 2, none⟩ = some (.slice s2_2 n2_2 c2_2) := by rw [hh.cell (by first | omega | (simp; done) | (simp; omega))]; first | (simp; done) | (simp [go_sem]; done)
  have za2 : w.heap.size + 1 + 1 < u1.heap.size := by have := hh.size; simp at this; omega
  have B0 := hb
  clear hb hh
  go_wp2_with fail
  refine (szBook_on n1_0 X1_0 Y1_0 K1_0 V1_0 s1_0 c1_0 _ _ (by omega) (by omega) (by omega) (HR1.out.below (by repeat (first | with_reducible exact Below.refl _ _ | with_reducible exact B0 | with_reducible refine Below.setCell ?_ (by first | omega | (simp; done) | (simp; omega)) _ | with_reducible refine bDrewN ?_ _ | with_reducible refine Below.drew ?_ | with_reducible refine Below.alloc ?_ (by first | omega | (simp; done) | (simp; omega)) _)))).mono ?_
  rintro e u2 ⟨rfl, hh⟩
  have hb : Below u1.heap.size u1 u2 := Below.trans (by repeat (first | with_reducible exact Below.refl _ _ | with_reducible refine Below.setCell ?_ (by first | omega | (simp; done) | (simp; omega)) _ | with_reducible refine bDrewN ?_ _ | with_reducible refine Below.drew ?_ | with_reducible refine Below.alloc ?_ (by first | omega | (simp; done) | (simp; omega)) _)) (hh.mono (by first | omega | (simp; done) | (simp; omega)))
  replace ca00 := (hb.cell (p := ⟨w.heap.size, 0, none⟩) za0).trans ca00
  replace ca01 := (hb.cell (p := ⟨w.heap.size, 1, none⟩) za0).trans ca01
  replace ca02 := (hb.cell (p := ⟨w.heap.size, 2, none⟩) za0).trans ca02
  replace za0 := Nat.lt_of_lt_of_le za0 hb.size
  replace ca10 := (hb.cell (p := ⟨w.heap.size + 1, 0, none⟩) za1).trans ca10
  replace za1 := Nat.lt_of_lt_of_le za1 hb.size
  replace ca20 := (hb.cell (p := ⟨w.heap.size + 1 + 1, 0, none⟩) za2).trans ca20
  replace ca21 := (hb.cell (p := ⟨w.heap.size + 1 + 1, 1, none⟩) za2).trans ca21
  replace ca22 := (hb.cell (p := ⟨w.heap.size + 1 + 1, 2, none⟩) za2).trans ca22
  replace za2 := Nat.lt_of_lt_of_le za2 hb.size
  replace B0 : Below w.heap.size w u2 := B0.trans (hb.mono B0.size)
  clear hb hh
  go_wp2_with fail
  refine (szPrm_off2 a2_0 a2_1 n2_2 V2_2 s2_2 c2_2 _ _ (by omega) (by omega) (by omega) (by omega)).mono ?_
  rintro e u3 ⟨rfl, hh⟩
  have hb : Below u2.heap.size u2 u3 := Below.trans (by repeat (first | with_reducible exact Below.refl _ _ | with_reducible refine Below.setCell ?_ (by first | omega | (simp; done) | (simp; omega)) _ | with_reducible refine bDrewN ?_ _ | with_reducible refine Below.drew ?_ | with_reducible refine Below.alloc ?_ (by first | omega | (simp; done) | (simp; omega)) _)) (hh.mono (by first | omega | (simp; done) | (simp; omega)))
  replace ca00 := (hb.cell (p := ⟨w.heap.size, 0, none⟩) za0).trans ca00
  replace ca01 := (hb.cell (p := ⟨w.heap.size, 1, none⟩) za0).trans ca01
  replace ca02 := (hb.cell (p := ⟨w.heap.size, 2, none⟩) za0).trans ca02
  replace za0 := Nat.lt_of_lt_of_le za0 hb.size
  replace ca10 := (hb.cell (p := ⟨w.heap.size + 1, 0, none⟩) za1).trans ca10
  replace za1 := Nat.lt_of_lt_of_le za1 hb.size
  replace ca20 := (hb.cell (p := ⟨w.heap.size + 1 + 1, 0, none⟩) za2).trans ca20
  replace ca21 := (hb.cell (p := ⟨w.heap.size + 1 + 1, 1, none⟩) za2).trans ca21
  replace ca22 := (hb.cell (p := ⟨w.heap.size + 1 + 1, 2, none⟩) za2).trans ca22
  replace za2 := Nat.lt_of_lt_of_le za2 hb.size
  replace B0 : Below w.heap.size w u3 := B0.trans (hb.mono B0.size)
  clear hb hh
  go_wp2
  go_ret
  exact ⟨rfl, (by repeat (first | with_reducible exact Below.refl _ _ | with_reducible exact B0 | with_reducible refine Below.setCell ?_ (by first | omega | (simp; done) | (simp; omega)) _ | with_reducible refine bDrewN ?_ _ | with_reducible refine Below.drew ?_ | with_reducible refine Below.alloc ?_ (by first | omega | (simp; done) | (simp; omega)) _))⟩
theorem fnExactGrant_walk (w : World) (a0_0 : Int) (s0_1 : Option Addr) (n0_1 c0_1 : Nat) (V0_1 : Nat → Int × Int) (s0_2 : Option Addr) (n0_2 c0_2 : Nat) (V0_2 : Nat → Int) (w0_0 : (Lit.int .i64 a0_0).wf = true) (m0_1 : n0_1 ≤ 9223372036854775807) (R0_1 : RowDuct w s0_1 n0_1 V0_1) (m0_2 : n0_2 ≤ 9223372036854775807) (R0_2 : RowI w s0_2 n0_2 V0_2) (s1_0 : Option Addr) (n1_0 c1_0 : Nat) (X1_0 : Nat → Int) (Y1_0 : Nat → Int) (K1_0 : Nat → Nat) (V1_0 : Nat → Nat → Int) (m1_0 : n1_0 ≤ 9223372036854775807) (mk1_0 : ∀ j, j < n1_0 → K1_0 j ≤ 9223372036854775807) (R1_0 : RowPer w s1_0 n1_0 X1_0 Y1_0 K1_0 V1_0) (a2_0 : Int) (a2_1 : Int) (s2_2 : Option Addr) (n2_2 c2_2 : Nat) (V2_2 : Nat → Int) (w2_0 : (Lit.int .i64 a2_0).wf = true) (w2_1 : (Lit.int .i64 a2_1).wf = true) (m2_2 : n2_2 ≤ 9223372036854775807) (R2_2 : RowI w s2_2 n2_2 V2_2) :
    Calls Try.prog 3 #[.agg #[.int .i64 a0_0, .slice s0_1 n0_1 c0_1, .slice s0_2 n0_2 c0_2], .agg #[.slice s1_0 n1_0 c1_0], .agg #[.int .i64 a2_0, .int .i64 a2_1, .slice s2_2 n2_2 c2_2]] w fun e w' => e = .returned (.bool true) ∧ Below w.heap.size w w' := by
  have k61_0 : ∀ i, i < n1_0 → (K1_0 i : Int) ≤ 9223372036854775807 := fun i hi => by have := mk1_0 i hi; omega
  by_cases gn0_1 : (n0_1 : Int) ≤ 1048576
  case neg => exact grant_farn0_1 w a0_0 n0_1 V0_1 n0_2 V0_2 s0_1 c0_1 s0_2 c0_2 n1_0 X1_0 Y1_0 K1_0 V1_0 s1_0 c1_0 a2_0 a2_1 n2_2 V2_2 s2_2 c2_2   (by omega) (by omega) 
  by_cases gn0_2 : (n0_2 : Int) ≤ 1048576 - n0_1
  case neg => exact grant_farn0_2 w a0_0 n0_1 V0_1 n0_2 V0_2 s0_1 c0_1 s0_2 c0_2 n1_0 X1_0 Y1_0 K1_0 V1_0 s1_0 c1_0 a2_0 a2_1 n2_2 V2_2 s2_2 c2_2  gn0_1 (by omega) (by omega) 
  by_cases gn1_0 : ((n1_0 : Int) + (suK K1_0 n1_0 : Int)) ≤ 1048576 - n0_1 - n0_2
  case neg => exact grant_farn1_0 w a0_0 n0_1 V0_1 n0_2 V0_2 s0_1 c0_1 s0_2 c0_2 n1_0 X1_0 Y1_0 K1_0 V1_0 s1_0 c1_0 a2_0 a2_1 n2_2 V2_2 s2_2 c2_2  gn0_1 gn0_2 (by omega) (by omega) k61_0 R1_0
  by_cases gn2_2 : (n2_2 : Int) ≤ 1048576 - n0_1 - n0_2 - ((n1_0 : Int) + (suK K1_0 n1_0 : Int))
  case neg => exact grant_farn2_2 w a0_0 n0_1 V0_1 n0_2 V0_2 s0_1 c0_1 s0_2 c0_2 n1_0 X1_0 Y1_0 K1_0 V1_0 s1_0 c1_0 a2_0 a2_1 n2_2 V2_2 s2_2 c2_2  gn0_1 gn0_2 gn1_0 (by omega) (by omega) R1_0
  obtain ⟨nR, XR, YR, KR, VR, cR, hR1, HF1, HF2⟩ := gr_ex a0_0 n0_1 V0_1 n0_2 V0_2 n1_0 X1_0 Y1_0 K1_0 V1_0 a2_0 a2_1 n2_2 V2_2 (by omega) (by omega) (by omega) (by omega)
  exact grant_near w a0_0 n0_1 V0_1 n0_2 V0_2 s0_1 c0_1 s0_2 c0_2 (by omega) (by omega) ⟨R0_1, R0_2⟩ n1_0 X1_0 Y1_0 K1_0 V1_0 s1_0 c1_0 (by omega) R1_0 a2_0 a2_1 n2_2 V2_2 s2_2 c2_2 (by omega) R2_2 (by omega) (by omega) (by omega) (by omega) nR XR YR KR VR (by omega) cR (fun s t b v w q r u => HF1 s t b v w q.1 q.2 r u) (fun s t b v w q r u => HF2 s t b v w q.1 q.2 r u)

set_option maxRecDepth 100000 in
theorem fnExactGrant_lifted (os : Os) (started : os.Started) (H : Type) (enc : TypeId × Value → H) :
    ReturnsInHanded {} Try.checked os 3 .any (Rows.fnExactGrantSpec.pre6 enc Try.prog Try.f3 Rows.fnExactGrantRow.domain false) (Rows.fnExactGrantSpec.post enc Try.prog Try.f3 false true false false) := by
  refine returnsInHanded_of_change (C := Try.checked) own started (by kernel_rfl) Try.func3
    (ChangeSpec.witness6 (enc := enc) (C := Try.checked) false ⟨#[], #[.agg #[.int .i64 0, .slice none 0 0, .slice none 0 0], .agg #[.slice none 0 0], .agg #[.int .i64 0, .int .i64 0, .slice none 0 0]], []⟩ 8 (by kernel_rfl) (by kernel_rfl) (by kernel_rfl) (by kernel_rfl)) ?_
  intro W base args ds gs before hval0 hW hcnd _
  have hval : ∀ (j : Nat) t v, Try.f3.params[j]? = some t → args[j]? = some v → Value.okWide Try.prog W .any base t v := hval0
  have hW' := hW
  obtain ⟨p, q, hA0, hV, rfl, hfz, hnd⟩ := hW
  have hA : DataW.TrodAll enc Try.prog W 0 (fun _ => true) true Try.f3.params.toList args.toList ds p := hA0
  rw [Try.params3] at hA hval
  obtain ⟨v0, vs0, d0, ds0, p0, q0, hargs, rfl, rfl, h0, r0⟩ := trodAll_cons hA
  obtain ⟨v1, vs1, d1, ds1, p1, q1, rfl, rfl, rfl, h1, r1⟩ := trodAll_cons r0
  obtain ⟨v2, vs2, d2, ds2, p2, q2, rfl, rfl, rfl, h2, r2⟩ := trodAll_cons r1
  obtain ⟨rfl, rfl, rfl⟩ := trodAll_nil r2
  obtain rfl : args = #[v0, v1, v2] := by cases args; simp_all
  obtain ⟨rfl, rfl⟩ := trodVars_none hV
  have k0 := h0
  have lt0 : ∀ x ∈ p0, x.block < W.heap.size := by obtain ⟨m, hm⟩ := k0; exact DataW.trod_lt m _ _ _ hm
  have k1 := h1
  have lt1 : ∀ x ∈ p1, x.block < W.heap.size := by obtain ⟨m, hm⟩ := k1; exact DataW.trod_lt m _ _ _ hm
  have k2 := h2
  have lt2 : ∀ x ∈ p2, x.block < W.heap.size := by obtain ⟨m, hm⟩ := k2; exact DataW.trod_lt m _ _ _ hm
  obtain ⟨a0_0, s0_1, n0_1, c0_1, V0_1, s0_2, n0_2, c0_2, V0_2, rfl, w0_0, m0_1, R0_1, m0_2, R0_2⟩ := open_Net (hval 0 25 v0 rfl rfl) h0
  obtain ⟨s1_0, n1_0, c1_0, X1_0, Y1_0, K1_0, V1_0, rfl, m1_0, mk1_0, R1_0⟩ := open_Book (hval 1 28 v1 rfl rfl) h1
  obtain ⟨a2_0, a2_1, s2_2, n2_2, c2_2, V2_2, rfl, w2_0, w2_1, m2_2, R2_2⟩ := open_Permit (hval 2 30 v2 rfl rfl) h2
  clear hA0 hval0
  refine (fnExactGrant_walk W a0_0 s0_1 n0_1 c0_1 V0_1 s0_2 n0_2 c0_2 V0_2 w0_0 m0_1 R0_1 m0_2 R0_2 s1_0 n1_0 c1_0 X1_0 Y1_0 K1_0 V1_0 m1_0 mk1_0 R1_0 a2_0 a2_1 s2_2 n2_2 c2_2 V2_2 w2_0 w2_1 m2_2 R2_2).mono fun e W' ⟨he, bel⟩ => ?_
  subst he
  exact ⟨_, rfl, _, _, _, [], _, [], hW', trodAll_mk1 (shut_bool Try.underlying4 _), (trodAll_cons_mk (Below.trod laidOut (by kernel_rfl) (of_decide_eq_true (by kernel_rfl)) k0 bel lt0) (trodAll_cons_mk (Below.trod laidOut (by kernel_rfl) (of_decide_eq_true (by kernel_rfl)) k1 bel lt1) (trodAll_cons_mk (Below.trod laidOut (by kernel_rfl) (of_decide_eq_true (by kernel_rfl)) k2 bel lt2) trodAll_mk0))), rfl, bel.frame _, fun h => by cases h⟩

theorem fnExactGrant_holds : Rows.FnExactGrantSaid :=
  OpenClaim.holds_of_wide 3 Try.f3 rfl rfl rfl rfl rfl rfl rfl ⟨rfl, rfl, rfl, rfl, rfl⟩ rfl rfl rfl rfl rfl (by kernel_rfl) Try.func3 (by kernel_rfl)
    (of_decide_eq_true (by kernel_rfl)) (by unfold Func.isWrapper; first | (rw [if_pos (by decide +kernel)]; kernel_rfl) | (rw [if_neg (by decide +kernel)]; exact ⟨rfl, rfl⟩))
    (fun os started H enc _ => fnExactGrant_lifted os started H enc)
#print axioms fnExactGrant_holds
end Go.Proofs.Ytikcfpjfcpbfcaa
