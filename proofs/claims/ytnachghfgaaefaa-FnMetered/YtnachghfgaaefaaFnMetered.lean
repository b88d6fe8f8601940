/-
What is proved: what two lists of readings that are drawn from any two codes count is what both behind one another count (at most 300 in all), and what is left behind the loss is at most what was counted; no condition.
-/
import Derived.Test.YtnachghfgaaefaaMeD
import Derived.Test.YtnachghfgaaefaaLjRdg
import Derived.Test.YtnachghfgaaefaaMe
import Derived.Test.YtnachghfgaaefaaOpen8
import Derived.Deep.DeepCutAuto
import Derived.Deep.QuietTactic
namespace Go.Proofs.Ytnachghfgaaefaa
set_option maxRecDepth 40000
open Go.ChangeShapes Go.WideShapes Go.ChangeAt Go.RowKit
set_option linter.unusedVariables false
set_option linter.unusedSimpArgs false

def prU (U : Nat → Int) (j : Nat) : Int × Int := (U (j * 2), U (j * 2 + 1))
theorem row_rdg {w : World} {t : Option Addr} {m : Nat} {U : Nat → Int} (h : RowI w t (m * 2) U) : RowReading w t m (prU U) := fun j hj => by
  obtain ⟨b, o, e, hl, c0⟩ := h (j * 2) (by omega)
  obtain ⟨b', o', e', _, c1⟩ := h (j * 2 + 1) (by omega)
  rw [e] at e'
  cases e'
  exact ⟨b, o, e, hl, c0, c1⟩
theorem pr_cat (U X : Nat → Int) (k j : Nat) : prU (catU U (k * 2) X) j = if j < k then prU U j else prU X (j - k) := by
  unfold prU catU
  by_cases h : j < k
  · rw [if_pos h, if_pos (by omega), if_pos (by omega)]
  · rw [if_neg h, if_neg (by omega), if_neg (by omega), show j * 2 - k * 2 = (j - k) * 2 by omega, show j * 2 + 1 - k * 2 = (j - k) * 2 + 1 by omega]
theorem met_ext {V W : Nat → Int × Int} : ∀ n, (∀ j, j < n → V j = W j) → metS V n = metS W n
  | 0, _ => rfl
  | n + 1, h => by unfold metS; rw [met_ext n (fun j hj => h j (by omega)), h n (by omega)]
theorem met_add (U X : Nat → Int) (k : Nat) : ∀ n, metS (prU (catU U (k * 2) X)) (k + n) = metS (prU U) k + metS (prU X) n
  | 0 => by
    rw [Nat.add_zero, met_ext (W := prU U) k (fun j hj => by rw [pr_cat, if_pos hj])]
    show _ = _ + (0 : Int)
    omega
  | n + 1 => by
    rw [← Nat.add_assoc]
    show metS _ (k + n) + rdgC _ = _ + (metS _ n + rdgC _)
    rw [met_add U X k n, pr_cat, if_neg (by omega), show k + n - k = n by omega]
    omega
theorem met_neg {n : Nat} {V : Nat → Int × Int} {p : Int} (h : metC n V p < 0) : metB n V p = false := by
  cases e : metB n V p
  · rfl
  · have := (met_yes e).1
    have := met_in V n
    omega
theorem met_pos {n : Nat} {V : Nat → Int × Int} {p : Int} (h : ¬ metC n V p < 0) : metB n V p = true := by
  cases e : metB n V p
  · have := (met_no e).1
    omega
  · rfl
theorem metB_parts {n : Nat} {V : Nat → Int × Int} {p : Int} : metB n V p = true ↔ n ≤ 300 ∧ inB 0 1000 p = true ∧ ∀ j, j < n → rdgB (V j) = true := by
  unfold metB
  simp only [Bool.and_eq_true, decide_eq_true_iff]
theorem met_catB {U X : Nat → Int} {k n : Nat} {p : Int} : metB (k + n) (prU (catU U (k * 2) X)) p = true ↔ k + n ≤ 300 ∧ metB k (prU U) p = true ∧ metB n (prU X) p = true := by
  rw [metB_parts, metB_parts, metB_parts]
  constructor
  · rintro ⟨h1, h2, h3⟩
    refine ⟨h1, ⟨by omega, h2, fun j hj => ?_⟩, by omega, h2, fun j hj => ?_⟩
    · have := h3 j (by omega)
      rw [pr_cat, if_pos hj] at this
      exact this
    · have := h3 (k + j) (by omega)
      rw [pr_cat, if_neg (by omega), show k + j - k = j by omega] at this
      exact this
  · rintro ⟨h1, ⟨_, h2, h3⟩, _, _, h4⟩
    refine ⟨h1, h2, fun j hj => ?_⟩
    rw [pr_cat]
    split
    · rename_i q; exact h3 j q
    · exact h4 (j - k) (by omega)
/-- What the law asks of the five numbers. -/
theorem met_law (U X : Nat → Int) (k n : Nat) (p : Int) : ((metC k (prU U) p < 0 ∨ metC n (prU X) p < 0) → metC (k + n) (prU (catU U (k * 2) X)) p = -1) ∧ (¬ metC k (prU U) p < 0 → ¬ metC n (prU X) p < 0 → (k + n ≤ 300 → metC (k + n) (prU (catU U (k * 2) X)) p = metC k (prU U) p + metC n (prU X) p) ∧ metL k (prU U) p ≤ metC k (prU U) p ∧ 0 ≤ metL k (prU U) p ∧ metC k (prU U) p ≤ 30000000 ∧ metC n (prU X) p ≤ 30000000) := by
  constructor
  · intro h
    refine (met_no ?_).1
    cases e : metB (k + n) (prU (catU U (k * 2) X)) p
    · rfl
    · obtain ⟨_, h1, h2⟩ := met_catB.1 e
      rcases h with h | h
      · rw [met_neg h] at h1; cases h1
      · rw [met_neg h] at h2; cases h2
  · intro h1 h2
    have b1 := met_pos h1
    have b2 := met_pos h2
    have m1 := met_in (prU U) k
    have m2 := met_in (prU X) n
    have k3 := (metB_parts.1 b1).1
    have n3 := (metB_parts.1 b2).1
    obtain ⟨p0, p1⟩ := inB_yes (metB_parts.1 b1).2.1
    rw [(met_yes b1).1, (met_yes b1).2, (met_yes b2).1]
    have q0 := met_mul m1.1 (by omega : metS (prU U) k ≤ 30000000) p0 p1
    have q1 : metS (prU U) k * p ≤ metS (prU U) k * 1000 := Int.mul_le_mul_of_nonneg_left p1 m1.1
    refine ⟨fun q => ?_, by omega, by omega, by omega, by omega⟩
    rw [(met_yes (met_catB.2 ⟨q, b1, b2⟩)).1]
    exact met_add U X k n
theorem lst_zero {H : Nat} {T : TypeId} {w : World} {v : Value} {m : Nat} {U : Nat → Int} (h : Lst H T 2 w v (0 + m) (catU (fun _ => 0) (0 * 2) U)) : Lst H T 2 w v m U := by
  have e : catU (fun _ => 0) (0 * 2) U = U := by funext j; unfold catU; rw [if_neg (by omega)]; rfl
  rw [Nat.zero_add, e] at h
  exact h
theorem rowI_belowB {w w' : World} {g n B : Nat} {V : Nat → Int} (h : RowI w (some ⟨g, 0, none⟩) n V) (hb : Below B w w') (hg : g < B) : RowI w' (some ⟨g, 0, none⟩) n V := fun j hj => by
  obtain ⟨b, o, e, hl, hc⟩ := h j hj
  cases e
  exact ⟨g, 0, rfl, Nat.lt_of_lt_of_le hl hb.size, (hb.cell (p := ⟨g, 0 + j, none⟩) hg).trans hc⟩
set_option maxHeartbeats 400000 in
theorem metered_far1 (w : World) (s : Option Addr) (n c : Nat) (s2 : Option Addr) (n2 c2 : Nat) (h : (1048576 : Int) < n) :
    Calls Try.prog 4 #[.slice s n c, .slice s2 n2 c2] w fun e w' => e = .returned (.bool true) ∧ Below w.heap.size w w' := by
  go_enter Try.func4, Try.ntmps4
  go_wp2_with fail
  refine (big_yes _ _ _ _ h).mono ?_
  rintro e w1 ⟨rfl, rfl⟩
  go_wp2
  go_ret
  exact ⟨rfl, Below.refl _ _⟩
set_option maxHeartbeats 400000 in
theorem metered_far2 (w : World) (s : Option Addr) (n c : Nat) (s2 : Option Addr) (n2 c2 : Nat) (h0 : (n : Int) ≤ 1048576) (h : (1048576 : Int) < n2) :
    Calls Try.prog 4 #[.slice s n c, .slice s2 n2 c2] w fun e w' => e = .returned (.bool true) ∧ Below w.heap.size w w' := by
  go_enter Try.func4, Try.ntmps4
  go_wp2_with fail
  refine (big_no _ _ _ _ h0).mono ?_
  rintro e w1 ⟨rfl, rfl⟩
  go_wp2_with fail
  refine (big_yes _ _ _ _ h).mono ?_
  rintro e w1 ⟨rfl, rfl⟩
  go_wp2
  go_ret
  exact ⟨rfl, Below.refl _ _⟩
set_option maxRecDepth 20000 in
set_option maxHeartbeats 8000000 in
theorem metered_near (w : World) (s : Option Addr) (n c : Nat) (s2 : Option Addr) (n2 c2 : Nat) (h0 : (n : Int) ≤ 1048576) (h : (n2 : Int) ≤ 1048576) (HC : Hid (Code8 w s n)) (HC2 : Hid (Code8 w s2 n2)) :
    Calls Try.prog 4 #[.slice s n c, .slice s2 n2 c2] w fun e w' => e = .returned (.bool true) ∧ Below w.heap.size w w' := by
  go_enter Try.func4, Try.ntmps4
  go_wp2_with fail
  refine (big_no _ _ _ _ h0).mono ?_
  rintro e w1 ⟨rfl, rfl⟩
  go_wp2_with fail
  refine (big_no _ _ _ _ h).mono ?_
  rintro e w1 ⟨rfl, rfl⟩
  go_wp2_with fail
  refine (drawMetered_any HC).mono ?_
  rintro e w2 ⟨ga, ma, ca, U, lo, rfl, ma1, ma2, RA, B2⟩
  have HA : Hid (RowI w2 (some ⟨ga, 0, none⟩) (ma * 2) U) := RA
  have HB : Hid (Below w1.heap.size w1 w2) := B2
  replace HC2 : Hid (Code8 w2 s2 n2) := HC2.out.below B2
  clear RA B2 HC
  go_wp2_with fail
  refine (drawMetered_any HC2).mono ?_
  rintro e w3 ⟨gb, mb, cb, X, lo2, rfl, mb1, mb2, RB, B3⟩
  have HX : Hid (RowI w3 (some ⟨gb, 0, none⟩) (mb * 2) X) := RB
  replace HA : Hid (RowI w3 (some ⟨ga, 0, none⟩) (ma * 2) U) := HA.out.below B3
  replace HB : Hid (Below w1.heap.size w1 w3) := HB.out.trans (B3.mono HB.out.size)
  clear RB B3 HC2
  obtain ⟨xa, hxa⟩ : ∃ xa, metC ma (prU U) lo = xa := ⟨_, rfl⟩
  obtain ⟨la, hla⟩ : ∃ la, metL ma (prU U) lo = la := ⟨_, rfl⟩
  obtain ⟨xb, hxb⟩ : ∃ xb, metC mb (prU X) lo = xb := ⟨_, rfl⟩
  obtain ⟨xc, hxc⟩ : ∃ xc, metC (ma + mb) (prU (catU U (ma * 2) X)) lo = xc := ⟨_, rfl⟩
  have HL := met_law U X ma mb lo
  rw [hxa, hla, hxb, hxc] at HL
  have IA : Hid (∀ w, RowI w (some ⟨ga, 0, none⟩) (ma * 2) U → Calls Try.prog 8 #[.slice (some ⟨ga, 0, none⟩) ma ca, .int .i64 lo] w fun e w' => e = .returned (.tuple #[.int .i64 xa, .int .i64 la]) ∧ Below w.heap.size w w') := fun w q => hxa ▸ hla ▸ implMetered_any _ ma ca (prU U) lo w (by omega) (row_rdg q)
  have SA : Hid (∀ w, RowI w (some ⟨ga, 0, none⟩) (ma * 2) U → Calls Try.prog 6 #[.slice (some ⟨ga, 0, none⟩) ma ca, .int .i64 lo] w fun e w' => e = .returned (.tuple #[.int .i64 xa, .int .i64 la]) ∧ Below w.heap.size w w') := fun w q => hxa ▸ hla ▸ specMetered_any _ ma ca (prU U) lo w (by omega) (row_rdg q)
  have IB : Hid (∀ w, RowI w (some ⟨gb, 0, none⟩) (mb * 2) X → Calls Try.prog 8 #[.slice (some ⟨gb, 0, none⟩) mb cb, .int .i64 lo] w fun e w' => (∃ y, e = .returned (.tuple #[.int .i64 xb, .int .i64 y])) ∧ Below w.heap.size w w') := fun w q => (implMetered_any _ mb cb (prU X) lo w (by omega) (row_rdg q)).mono fun e w' h => ⟨⟨_, hxb ▸ h.1⟩, h.2⟩
  have IC : Hid (∀ w t cap, RowI w t ((ma + mb) * 2) (catU U (ma * 2) X) → Calls Try.prog 8 #[.slice t (ma + mb) cap, .int .i64 lo] w fun e w' => (∃ y, e = .returned (.tuple #[.int .i64 xc, .int .i64 y])) ∧ Below w.heap.size w w') := fun w t cap q => (implMetered_any _ (ma + mb) cap (prU (catU U (ma * 2) X)) lo w (by omega) (row_rdg q)).mono fun e w' h => ⟨⟨_, hxc ▸ h.1⟩, h.2⟩
  clear hxa hla hxb hxc
  obtain ⟨HL1, HL2⟩ := HL
  have HLa : Hid ((xa < 0 ∨ xb < 0) → xc = -1) := HL1
  have HLb : Hid (¬ xa < 0 → ¬ xb < 0 → (ma + mb ≤ 300 → xc = xa + xb) ∧ la ≤ xa ∧ 0 ≤ la ∧ xa ≤ 30000000 ∧ xb ≤ 30000000) := HL2
  clear HL1 HL2
  have z3 : w1.heap.size ≤ w3.heap.size := HB.out.size
  have ml : Lst w3.heap.size 37 2 (w3.alloc (.cells #[] 37)) (.slice (some ⟨w3.heap.size, 0, none⟩) 0 0) 0 (fun _ => 0) := Lst.lit w3 _ _ 37 2 _ (Nat.le_refl _)
  obtain ⟨W, hW⟩ : ∃ W, W = w3.alloc (.cells #[] 37) := ⟨_, rfl⟩
  have blW : Below w3.heap.size w3 W := by rw [hW]; exact below0 _ _
  rw [← hW] at ml
  obtain ⟨H, hH⟩ : ∃ H, H = w3.heap.size := ⟨_, rfl⟩
  have ML : Hid (Lst H 37 2 W (.slice (some ⟨H, 0, none⟩) 0 0) 0 (fun _ => 0)) := by rw [hH]; exact ml
  have HAW : Hid (RowI W (some ⟨ga, 0, none⟩) (ma * 2) U) := HA.out.below blW
  have HXW : Hid (RowI W (some ⟨gb, 0, none⟩) (mb * 2) X) := HX.out.below blW
  have sW : H ≤ W.heap.size := by rw [hH]; exact blW.size
  have hXz : gb < H := by
    obtain ⟨b, o, e, hl, _⟩ := HX.out 0 (by omega)
    cases e
    rw [hH]; exact hl
  have hAz : ga < H := by
    obtain ⟨b, o, e, hl, _⟩ := HA.out 0 (by omega)
    cases e
    rw [hH]; exact hl
  clear ml
  go_upto_region 6 with (first | (at_builtin; first | (have := J1; refine join_Reading H v1 ma U _ _ ⟨gb, 0, none⟩ mb cb X (by rfl) (by rfl) (by rfl) (by rfl) J1.out (by omega) (by omega) sJ HXJ.out ?_; intro v2 w5 j5 b5) | (rw [← hW]; refine join_Reading H (.slice (some ⟨H, 0, none⟩) 0 0) 0 (fun _ => 0) _ _ ⟨ga, 0, none⟩ ma ca U (by rfl) (by rfl) (by rw [hH]; rfl) (by rfl) ML.out (by omega) (by omega) sW HAW.out ?_; intro v1 w4 j4 b4; have J1 : Hid (Lst H 37 2 w4 v1 ma U) := lst_zero j4; have HXJ : Hid (RowI w4 (some ⟨gb, 0, none⟩) (mb * 2) X) := rowI_belowB HXW.out b4 hXz; have HAJ : Hid (RowI w4 (some ⟨ga, 0, none⟩) (ma * 2) U) := rowI_belowB HAW.out b4 hAz; have sJ : H ≤ w4.heap.size := Nat.le_trans sW b4.size)))
  obtain ⟨t, cap, ev, OW⟩ := Lst.own j5
  subst ev
  have HT : Hid (RowI w5 t ((ma + mb) * 2) (catU U (ma * 2) X)) := OW.row
  replace HA : Hid (RowI w5 (some ⟨ga, 0, none⟩) (ma * 2) U) := rowI_belowB HAJ.out b5 hAz
  replace HX : Hid (RowI w5 (some ⟨gb, 0, none⟩) (mb * 2) X) := rowI_belowB HXJ.out b5 hXz
  replace HB : Hid (Below w1.heap.size w1 w5) := HB.out.trans (((blW.trans (by rw [← hH]; exact b4)).trans (by rw [← hH]; exact b5)).mono z3)
  clear OW j5 b5 b4 J1 HXJ HAJ sJ HAW HXW ML blW sW hXz hAz
  go_wp2_with fail
  refine (IA.out _ HA.out).mono ?_
  rintro e w6 ⟨rfl, h_⟩
  replace HA : Hid (RowI w6 (some ⟨ga, 0, none⟩) (ma * 2) U) := HA.out.below h_
  replace HX : Hid (RowI w6 (some ⟨gb, 0, none⟩) (mb * 2) X) := HX.out.below h_
  replace HT : Hid (RowI w6 t ((ma + mb) * 2) (catU U (ma * 2) X)) := HT.out.below h_
  replace HB : Hid (Below w1.heap.size w1 w6) := HB.out.trans (h_.mono HB.out.size)
  clear h_
  go_wp2_with fail
  refine (IB.out _ HX.out).mono ?_
  rintro e w7 ⟨⟨yb, rfl⟩, h_⟩
  replace HA : Hid (RowI w7 (some ⟨ga, 0, none⟩) (ma * 2) U) := HA.out.below h_
  replace HT : Hid (RowI w7 t ((ma + mb) * 2) (catU U (ma * 2) X)) := HT.out.below h_
  replace HB : Hid (Below w1.heap.size w1 w7) := HB.out.trans (h_.mono HB.out.size)
  clear h_
  go_wp2_with fail
  refine (IC.out _ _ _ HT.out).mono ?_
  rintro e w8 ⟨⟨yc, rfl⟩, h_⟩
  replace HA : Hid (RowI w8 (some ⟨ga, 0, none⟩) (ma * 2) U) := HA.out.below h_
  replace HB : Hid (Below w1.heap.size w1 w8) := HB.out.trans (h_.mono HB.out.size)
  clear h_
  go_wp2_with fail
  refine (SA.out _ HA.out).mono ?_
  rintro e w9 ⟨rfl, h_⟩
  replace HB : Hid (Below w1.heap.size w1 w9) := HB.out.trans (h_.mono HB.out.size)
  clear h_
  have BF := HB.out
  have sBF := BF.size
  have e1 : (xa != xa) = false := by simp
  have e2 : (la != la) = false := by simp
  by_cases x0 : xa < 0
  · have hc : (xc == -1) = true := by simpa using HLa.out (Or.inl x0)
    go_wp2
    go_ret
    exact ⟨rfl, (by repeat (first | with_reducible exact Below.refl _ _ | with_reducible exact BF | with_reducible refine Below.setCell ?_ (by first | omega | (simp; done) | (simp; omega)) _ | with_reducible refine bDrewN ?_ _ | with_reducible refine Below.drew ?_ | with_reducible refine Below.alloc ?_ (by first | omega | (simp; done) | (simp; omega)) _))⟩
  by_cases y0 : xb < 0
  · have hc : (xc == -1) = true := by simpa using HLa.out (Or.inr y0)
    go_wp2
    go_ret
    exact ⟨rfl, (by repeat (first | with_reducible exact Below.refl _ _ | with_reducible exact BF | with_reducible refine Below.setCell ?_ (by first | omega | (simp; done) | (simp; omega)) _ | with_reducible refine bDrewN ?_ _ | with_reducible refine Below.drew ?_ | with_reducible refine Below.alloc ?_ (by first | omega | (simp; done) | (simp; omega)) _))⟩
  obtain ⟨q1, q2, q3, q4, q5⟩ := HLb.out (by omega) (by omega)
  have q6 : 0 ≤ xa := by omega
  have q7 : 0 ≤ xb := by omega
  have ws : IntKind.i64.wrap (xa + xb) = xa + xb := by rw [IntKind.wrap_i64]; omega
  have wl : IntKind.i64.wrap ((ma : Int) + (mb : Int)) = (ma : Int) + (mb : Int) := by rw [IntKind.wrap_i64]; omega
  by_cases hm : ma + mb ≤ 300
  · have hc : (xc == xa + xb) = true := by simpa using q1 hm
    have hg : decide ((300 : Int) < ((ma + mb : Nat) : Int)) = false := decide_eq_false (by omega)
    have hg2 : decide ((300 : Int) < (ma : Int) + (mb : Int)) = false := decide_eq_false (by omega)
    clear q1
    go_wp2
    go_ret
    exact ⟨rfl, (by repeat (first | with_reducible exact Below.refl _ _ | with_reducible exact BF | with_reducible refine Below.setCell ?_ (by first | omega | (simp; done) | (simp; omega)) _ | with_reducible refine bDrewN ?_ _ | with_reducible refine Below.drew ?_ | with_reducible refine Below.alloc ?_ (by first | omega | (simp; done) | (simp; omega)) _))⟩
  · have hg : decide ((300 : Int) < ((ma + mb : Nat) : Int)) = true := decide_eq_true (by omega)
    have hg2 : decide ((300 : Int) < (ma : Int) + (mb : Int)) = true := decide_eq_true (by omega)
    clear q1
    go_wp2
    go_ret
    exact ⟨rfl, (by repeat (first | with_reducible exact Below.refl _ _ | with_reducible exact BF | with_reducible refine Below.setCell ?_ (by first | omega | (simp; done) | (simp; omega)) _ | with_reducible refine bDrewN ?_ _ | with_reducible refine Below.drew ?_ | with_reducible refine Below.alloc ?_ (by first | omega | (simp; done) | (simp; omega)) _))⟩
theorem fnMetered_walk (w : World) (s : Option Addr) (n c : Nat) (hn : n ≤ 9223372036854775807) (R : Bytes w s n) (s2 : Option Addr) (n2 c2 : Nat) (hn2 : n2 ≤ 9223372036854775807) (R2 : Bytes w s2 n2) :
    Calls Try.prog 4 #[.slice s n c, .slice s2 n2 c2] w fun e w' => e = .returned (.bool true) ∧ Below w.heap.size w w' := by
  by_cases h : n ≤ 1048576
  · by_cases h2 : n2 ≤ 1048576
    · exact metered_near w s n c s2 n2 c2 (by omega) (by omega) (R.code h) (R2.code h2)
    · exact metered_far2 w s n c s2 n2 c2 (by omega) (by omega)
  · exact metered_far1 w s n c s2 n2 c2 (by omega)

set_option maxRecDepth 100000 in
theorem fnMetered_lifted (os : Os) (started : os.Started) (H : Type) (enc : TypeId × Value → H) :
    ReturnsInHanded {} Try.checked os 4 .any (Rows.fnMeteredSpec.pre6 enc Try.prog Try.f4 Rows.fnMeteredRow.domain false) (Rows.fnMeteredSpec.post enc Try.prog Try.f4 false true false false) := by
  refine returnsInHanded_of_change (C := Try.checked) own started (by kernel_rfl) Try.func4
    (ChangeSpec.witness6 (enc := enc) (C := Try.checked) false ⟨#[], #[.slice none 0 0, .slice none 0 0], []⟩ 8 (by kernel_rfl) (by kernel_rfl) (by kernel_rfl) (by kernel_rfl)) ?_
  intro W base args ds gs before hval0 hW hcnd _
  have hval : ∀ (j : Nat) t v, Try.f4.params[j]? = some t → args[j]? = some v → Value.okWide Try.prog W .any base t v := hval0
  have hW' := hW
  obtain ⟨p, q, hA0, hV, rfl, hfz, hnd⟩ := hW
  have hA : DataW.TrodAll enc Try.prog W 0 (fun _ => true) true Try.f4.params.toList args.toList ds p := hA0
  rw [Try.params4] at hA hval
  obtain ⟨v0, vs0, d0, ds0, p0, q0, hargs, rfl, rfl, h0, r0⟩ := trodAll_cons hA
  obtain ⟨v1, vs1, d1, ds1, p1, q1, rfl, rfl, rfl, h1, r1⟩ := trodAll_cons r0
  obtain ⟨rfl, rfl, rfl⟩ := trodAll_nil r1
  obtain rfl : args = #[v0, v1] := by cases args; simp_all
  obtain ⟨rfl, rfl⟩ := trodVars_none hV
  have k0 := h0
  have lt0 : ∀ x ∈ p0, x.block < W.heap.size := by obtain ⟨m, hm⟩ := k0; exact DataW.trod_lt m _ _ _ hm
  have k1 := h1
  have lt1 : ∀ x ∈ p1, x.block < W.heap.size := by obtain ⟨m, hm⟩ := k1; exact DataW.trod_lt m _ _ _ hm
  obtain ⟨s0, n0, c0, rfl, m0, R0⟩ := open_code Try.underlying30 Try.underlying5 (by kernel_rfl) (hval 0 30 v0 rfl rfl) h0
  obtain ⟨s1, n1, c1, rfl, m1, R1⟩ := open_code Try.underlying30 Try.underlying5 (by kernel_rfl) (hval 1 30 v1 rfl rfl) h1
  clear hA0 hval0
  refine (fnMetered_walk W s0 n0 c0 m0 R0 s1 n1 c1 m1 R1).mono fun e W' ⟨he, bel⟩ => ?_
  subst he
  exact ⟨_, rfl, _, _, _, [], _, [], hW', trodAll_mk1 (shut_bool Try.underlying4 _), (trodAll_cons_mk (Below.trod laidOut (by kernel_rfl) (of_decide_eq_true (by kernel_rfl)) k0 bel lt0) (trodAll_cons_mk (Below.trod laidOut (by kernel_rfl) (of_decide_eq_true (by kernel_rfl)) k1 bel lt1) trodAll_mk0)), rfl, bel.frame _, fun h => by cases h⟩

theorem fnMetered_holds : Rows.FnMeteredSaid :=
  OpenClaim.holds_of_wide 4 Try.f4 rfl rfl rfl rfl rfl rfl rfl ⟨rfl, rfl, rfl, rfl, rfl⟩ rfl rfl rfl rfl rfl (by kernel_rfl) Try.func4 (by kernel_rfl)
    (of_decide_eq_true (by kernel_rfl)) (by unfold Func.isWrapper; first | (rw [if_pos (by decide +kernel)]; kernel_rfl) | (rw [if_neg (by decide +kernel)]; exact ⟨rfl, rfl⟩))
    (fun os started H enc _ => fnMetered_lifted os started H enc)
#print axioms fnMetered_holds
end Go.Proofs.Ytnachghfgaaefaa
