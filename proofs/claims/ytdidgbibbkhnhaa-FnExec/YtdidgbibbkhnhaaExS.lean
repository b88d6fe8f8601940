/-
What is proved: code run, as the specification runs it.
-/
import Derived.Test.YtdidgbibbkhnhaaExP
import Derived.Test.YtdidgbibbkhnhaaCoS
import Derived.Test.YtdidgbibbkhnhaaGvS
import Derived.Test.YtdidgbibbkhnhaaNwA
import Derived.Test.YtdidgbibbkhnhaaLkD
namespace Go.Proofs.Ytdidgbibbkhnhaa
set_option maxRecDepth 40000
open Go.RowKit
set_option linter.unusedVariables false
set_option linter.unusedSimpArgs false

set_option maxRecDepth 20000 in
set_option maxHeartbeats 2000000 in
theorem l19Small_any (s : Option Addr) (n c : Nat) (V : Nat → Int) (w : World) (hn : (n : Int) ≤ 1048576) (HR : Hid (RowI w s n V)) : Calls Try.prog 25 #[.slice s n c] w fun e w' => e = .returned (.bool (smB n V)) ∧ w' = w := by
  go_enter Try.func25, Try.ntmps25
  go_wp2_with fail
  go_loopw [3] (fun i wr => ∃ k : Nat, k ≤ n ∧ i = .int .i64 k ∧ wr = w ∧ Hid (∀ j, j < k → inB (-1000000) 1000000 (V j) = true)) (fun i _ => n - (intOf i).toNat)
  case atStart => exact ⟨0, Nat.zero_le _, rfl, rfl, fun j hj => by omega⟩
  case round =>
    obtain ⟨k, hk, rfl, rfl, HP⟩ := hrel
    by_cases h1 : k < n
    · obtain ⟨g, o, rfl, hg, c0⟩ := HR.out k h1
      have k1 : (k : Int) < (n : Int) := by omega
      go_wp2_with fail
      refine (l1In_is _ _ _ _).mono ?_
      rintro e w1 ⟨rfl, rfl⟩
      cases q : inB (-1000000) 1000000 (V k)
      · have HO : Hid (smB n V = false) := decide_eq_false fun z => by have := z k h1; rw [q] at this; cases this
        go_wp2
        go_ret
        exact ⟨ret_bool HO.out.symm, rfl⟩
      · go_wp2
        go_roundw
        case rel => exact ⟨k + 1, by omega, by go_num, by first | rfl | trivial, ballC HP.out q⟩
        case measure => first | (simp [intOf]; done) | (simp [intOf]; omega)
    · obtain rfl : k = n := by omega
      have HO : Hid (smB k V = true) := decide_eq_true HP.out
      go_wp2
      go_ret
      exact ⟨ret_bool HO.out.symm, rfl⟩
theorem l18Gives_any (n : Int) (s : Option Addr) (t c base : Nat) (U : Nat → Int) (w : World) (n0 : 5 ≤ n) (n1 : n ≤ 16) (ht : t = (tkL (n.toNat - 1)).length) (hU : ∀ j, j < t → -1000000 ≤ U j ∧ U j ≤ 1000000) (HO : Hid (OwnI base w s t U)) : Calls Try.prog 28 #[.int .i64 n, .slice s t c, .int .i64 0, .int .i64 0] w fun e w' => e = .returned (.int .i64 (gvV n (U 0) (U 1) (U 2))) ∧ w' = w := by
  have hc : n = 5 ∨ n = 6 ∨ n = 7 ∨ n = 8 ∨ n = 9 ∨ n = 10 ∨ n = 11 ∨ n = 12 ∨ n = 13 ∨ n = 14 ∨ n = 15 ∨ n = 16 := by omega
  clear n0 n1
  rcases hc with rfl | rfl | rfl | rfl | rfl | rfl | rfl | rfl | rfl | rfl | rfl | rfl
  · obtain rfl : t = 2 := ht
    obtain ⟨b, rfl, -, hb, e0, -⟩ := HO.out 0 (by omega)
    have r0 := hU 0 (by omega)
    obtain ⟨b', q', -, -, e1, -⟩ := HO.out 1 (by omega)
    cases q'
    have r1 := hU 1 (by omega)
    exact gives_5 b 0 c (U 0) (U 1) (U 2) w r0.1 r0.2 r1.1 r1.2 hb e0 e1
  · obtain rfl : t = 2 := ht
    obtain ⟨b, rfl, -, hb, e0, -⟩ := HO.out 0 (by omega)
    have r0 := hU 0 (by omega)
    obtain ⟨b', q', -, -, e1, -⟩ := HO.out 1 (by omega)
    cases q'
    have r1 := hU 1 (by omega)
    exact gives_6 b 0 c (U 0) (U 1) (U 2) w r0.1 r0.2 r1.1 r1.2 hb e0 e1
  · obtain rfl : t = 2 := ht
    obtain ⟨b, rfl, -, hb, e0, -⟩ := HO.out 0 (by omega)
    have r0 := hU 0 (by omega)
    obtain ⟨b', q', -, -, e1, -⟩ := HO.out 1 (by omega)
    cases q'
    have r1 := hU 1 (by omega)
    exact gives_7 b 0 c (U 0) (U 1) (U 2) w r0.1 r0.2 r1.1 r1.2 hb e0 e1
  · obtain rfl : t = 1 := ht
    obtain ⟨b, rfl, -, hb, e0, -⟩ := HO.out 0 (by omega)
    have r0 := hU 0 (by omega)
    exact gives_8 b 0 c (U 0) 0 (U 2) w r0.1 r0.2 (by omega) (by omega) hb e0
  · obtain rfl : t = 2 := ht
    obtain ⟨b, rfl, -, hb, e0, -⟩ := HO.out 0 (by omega)
    have r0 := hU 0 (by omega)
    obtain ⟨b', q', -, -, e1, -⟩ := HO.out 1 (by omega)
    cases q'
    have r1 := hU 1 (by omega)
    exact gives_9 b 0 c (U 0) (U 1) (U 2) w r0.1 r0.2 r1.1 r1.2 hb e0 e1
  · obtain rfl : t = 2 := ht
    obtain ⟨b, rfl, -, hb, e0, -⟩ := HO.out 0 (by omega)
    have r0 := hU 0 (by omega)
    obtain ⟨b', q', -, -, e1, -⟩ := HO.out 1 (by omega)
    cases q'
    have r1 := hU 1 (by omega)
    exact gives_10 b 0 c (U 0) (U 1) (U 2) w r0.1 r0.2 r1.1 r1.2 hb e0 e1
  · obtain rfl : t = 2 := ht
    obtain ⟨b, rfl, -, hb, e0, -⟩ := HO.out 0 (by omega)
    have r0 := hU 0 (by omega)
    obtain ⟨b', q', -, -, e1, -⟩ := HO.out 1 (by omega)
    cases q'
    have r1 := hU 1 (by omega)
    exact gives_11 b 0 c (U 0) (U 1) (U 2) w r0.1 r0.2 r1.1 r1.2 hb e0 e1
  · obtain rfl : t = 2 := ht
    obtain ⟨b, rfl, -, hb, e0, -⟩ := HO.out 0 (by omega)
    have r0 := hU 0 (by omega)
    obtain ⟨b', q', -, -, e1, -⟩ := HO.out 1 (by omega)
    cases q'
    have r1 := hU 1 (by omega)
    exact gives_12 b 0 c (U 0) (U 1) (U 2) w r0.1 r0.2 r1.1 r1.2 hb e0 e1
  · obtain rfl : t = 2 := ht
    obtain ⟨b, rfl, -, hb, e0, -⟩ := HO.out 0 (by omega)
    have r0 := hU 0 (by omega)
    obtain ⟨b', q', -, -, e1, -⟩ := HO.out 1 (by omega)
    cases q'
    have r1 := hU 1 (by omega)
    exact gives_13 b 0 c (U 0) (U 1) (U 2) w r0.1 r0.2 r1.1 r1.2 hb e0 e1
  · obtain rfl : t = 2 := ht
    obtain ⟨b, rfl, -, hb, e0, -⟩ := HO.out 0 (by omega)
    have r0 := hU 0 (by omega)
    obtain ⟨b', q', -, -, e1, -⟩ := HO.out 1 (by omega)
    cases q'
    have r1 := hU 1 (by omega)
    exact gives_14 b 0 c (U 0) (U 1) (U 2) w r0.1 r0.2 r1.1 r1.2 hb e0 e1
  · obtain rfl : t = 2 := ht
    obtain ⟨b, rfl, -, hb, e0, -⟩ := HO.out 0 (by omega)
    have r0 := hU 0 (by omega)
    obtain ⟨b', q', -, -, e1, -⟩ := HO.out 1 (by omega)
    cases q'
    have r1 := hU 1 (by omega)
    exact gives_15 b 0 c (U 0) (U 1) (U 2) w r0.1 r0.2 r1.1 r1.2 hb e0 e1
  · obtain rfl : t = 3 := ht
    obtain ⟨b, rfl, -, hb, e0, -⟩ := HO.out 0 (by omega)
    have r0 := hU 0 (by omega)
    obtain ⟨b', q', -, -, e1, -⟩ := HO.out 1 (by omega)
    cases q'
    have r1 := hU 1 (by omega)
    obtain ⟨b', q', -, -, e2, -⟩ := HO.out 2 (by omega)
    cases q'
    have r2 := hU 2 (by omega)
    exact gives_16 b 0 c (U 0) (U 1) (U 2) w r0.1 r0.2 r1.1 r1.2 hb e0 e1 e2
set_option maxRecDepth 20000 in
set_option maxHeartbeats 8000000 in
theorem specExec_any (s : Option Addr) (n c : Nat) (V : Nat → Int) (so : Option Addr) (a ca : Nat) (O : Nat → Int) (si : Option Addr) (ni ci : Nat) (I : Nat → Int) (w : World) (hn : (n : Int) ≤ 1048576) (ha : (a : Int) ≤ 1048576) (hni : (ni : Int) ≤ 1048576) (HR : Hid (RowI w s (n * 2) V)) (HO : Hid (RowI w so a O)) (HI : Hid (RowI w si ni I)) :
    Calls Try.prog 8 #[.slice s n c, .slice so a ca, .slice si ni ci] w fun e w' => ExPost w n V a O ni I e w' := by
  go_enter Try.func8, Try.ntmps8
  go_wp2_with fail
  refine (specCodeOk_any s n c V (a : Int) (ni : Int) _ hn HR).mono ?_
  rintro e w1 ⟨rfl, h1⟩
  have s1 := h1.size
  cases k0 : codeB n V (a : Int) (ni : Int)
  · have HZ : Hid (exB n V a O ni I = false) := by show _ = _; unfold exB; rw [k0]; rfl
    go_wp2
    exact bodyPost_ret (v := .tuple #[.slice (some ⟨w1.heap.size, 0, none⟩) 0 0, .bool false]) (by simp [results, Try.results8, go_sem]) rfl (ex_no HZ.out (by repeat (first | with_reducible exact Below.refl _ _ | with_reducible exact h1 | with_reducible refine Below.setCell ?_ (by first | omega | (simp; done) | (simp; omega)) _ | with_reducible refine bDrewN ?_ _ | with_reducible refine Below.drew ?_ | with_reducible refine Below.alloc ?_ (by first | omega | (simp; done) | (simp; omega)) _)))
  go_wp2_with fail
  refine (l19Small_any so a ca O _ ha (HO.out.below h1)).mono ?_
  rintro e w1 ⟨rfl, rfl⟩
  cases k1 : smB a O
  · have HZ : Hid (exB n V a O ni I = false) := by show _ = _; unfold exB; rw [k0, k1]; rfl
    go_wp2
    exact bodyPost_ret (v := .tuple #[.slice (some ⟨w1.heap.size, 0, none⟩) 0 0, .bool false]) (by simp [results, Try.results8, go_sem]) rfl (ex_no HZ.out (by repeat (first | with_reducible exact Below.refl _ _ | with_reducible exact h1 | with_reducible refine Below.setCell ?_ (by first | omega | (simp; done) | (simp; omega)) _ | with_reducible refine bDrewN ?_ _ | with_reducible refine Below.drew ?_ | with_reducible refine Below.alloc ?_ (by first | omega | (simp; done) | (simp; omega)) _)))
  go_wp2_with fail
  refine (l19Small_any si ni ci I _ hni (HI.out.below h1)).mono ?_
  rintro e w1 ⟨rfl, rfl⟩
  cases k2 : smB ni I
  · have HZ : Hid (exB n V a O ni I = false) := by show _ = _; unfold exB; rw [k0, k1, k2]; rfl
    go_wp2
    exact bodyPost_ret (v := .tuple #[.slice (some ⟨w1.heap.size, 0, none⟩) 0 0, .bool false]) (by simp [results, Try.results8, go_sem]) rfl (ex_no HZ.out (by repeat (first | with_reducible exact Below.refl _ _ | with_reducible exact h1 | with_reducible refine Below.setCell ?_ (by first | omega | (simp; done) | (simp; omega)) _ | with_reducible refine bDrewN ?_ _ | with_reducible refine Below.drew ?_ | with_reducible refine Below.alloc ?_ (by first | omega | (simp; done) | (simp; omega)) _)))
  have HZ : Hid (exB n V a O ni I = true) := by show _ = _; unfold exB; rw [k0, k1, k2]; rfl
  obtain ⟨n5, ⟨-, a60⟩, ⟨-, i60⟩, hJ, -⟩ := code_yes k0
  have HJ : Hid (∀ j, j < n → coJ (a : Int) (ni : Int) V j = true) := hJ
  have SO := sm_yes k1
  have SI := sm_yes k2
  have HEX : Hid (∀ k, k ≤ n → exOk a (coK V k).2 (exK V O I k) ∧ 0 ≤ (coK V k).2 ∧ (coK V k).2 ≤ 10) := fun k hk => ⟨ex_ok (n := n) SO SI k (fun j hj => hJ j (by omega)), co_rng (n := n) k (fun j hj => hJ j (by omega))⟩
  clear k0 k1 k2 SO SI hJ
  have hmk := make_i64x a (by omega)
  have H1 : Hid (Below w.heap.size w w1) := h1
  clear h1
  go_wp2_with fail
  go_loopw [9, 10] (fun x i wr => ∃ k g cap : Nat, k ≤ n ∧ i = .int .i64 k ∧ x = .slice (some ⟨g, 0, none⟩) (exK V O I k).h cap ∧ Hid (StkI (w1.heap.size + 1) wr (.slice (some ⟨g, 0, none⟩) (exK V O I k).h cap) (exK V O I k).h (exK V O I k).F) ∧ Hid (NsAt w1.heap.size wr a (exK V O I k).N) ∧ Hid (Below w1.heap.size w1 wr)) (fun _ i _ => n - (intOf i).toNat)
  case atStart => exact ⟨0, w1.heap.size + 1, 0, Nat.zero_le _, rfl, rfl, .inr ⟨w1.heap.size + 1, 0, rfl, Nat.le_refl _, by simp, Nat.le_refl _, fun o => by simp [go_sem], fun j hj => absurd hj (Nat.not_lt_zero j), fun j hj => absurd hj (Nat.not_lt_zero j)⟩, (ns_made w1 a 2).same (by simp) ((below0 _ _).block _ (by simp)), (show Below w1.heap.size w1 _ from (by repeat (first | with_reducible exact Below.refl _ _ | with_reducible refine Below.setCell ?_ (by first | omega | (simp; done) | (simp; omega)) _ | with_reducible refine bDrewN ?_ _ | with_reducible refine Below.drew ?_ | with_reducible refine Below.alloc ?_ (by first | omega | (simp; done) | (simp; omega)) _)))⟩
  case round =>
    obtain ⟨k, g, cap, hk, rfl, rfl, HS, HN, HW1⟩ := hrel
    obtain ⟨eok, hr0, hr1⟩ := HEX.out k hk
    have HB : Below w.heap.size w wr := H1.out.trans (HW1.out.mono s1)
    obtain ⟨S, hS⟩ : ∃ S, exK V O I k = S := ⟨_, rfl⟩
    rw [hS] at HS HN eok ⊢
    obtain ⟨es, hSF, -⟩ := eok
    have hh : S.h ≤ 10 := by omega
    by_cases h1 : k < n
    · obtain ⟨g1, o, rfl, hg1, x0⟩ := HR.out (k * 2) (by omega)
      obtain ⟨g', o', e', hg2, x1⟩ := HR.out (k * 2 + 1) (by omega)
      cases e'
      have y0 : wr.cell? ⟨g1, o + k * 2, none⟩ = some (.int .i64 (V (k * 2))) := (HB.cell (p := ⟨g1, o + k * 2, none⟩) hg1).trans x0
      have y1 : wr.cell? ⟨g1, o + k * 2 + 1, none⟩ = some (.int .i64 (V (k * 2 + 1))) := (HB.cell (p := ⟨g1, o + (k * 2 + 1), none⟩) hg1).trans x1
      have zg : g1 < wr.heap.size := Nat.lt_of_lt_of_le hg1 HB.size
      have k1 : (k : Int) < (n : Int) := by omega
      have hctE : ctB (a : Int) (ni : Int) (coK V k).1 (coK V k).2 (V (k * 2)) (V (k * 2 + 1)) = true := HJ.out k h1
      have HNX : exK V O I (k + 1) = exN O I S (V (k * 2)) (V (k * 2 + 1)) := by show exN _ _ _ _ _ = _; rw [hS]
      obtain ⟨op, hop⟩ : ∃ op, V (k * 2) = op := ⟨_, rfl⟩
      obtain ⟨N, hN⟩ : ∃ N, V (k * 2 + 1) = N := ⟨_, rfl⟩
      rw [hop] at y0 hctE HNX
      rw [hN] at y1 hctE HNX
      obtain ⟨⟨op0, op1⟩, j1, j3, j4, j5⟩ := ct_idx hctE
      have j6 := (ct_yes hctE).2.1
      have HE : Hid (exK V O I (k + 1) = exN O I S op N) := HNX
      clear x0 x1 hg1 hg2 hop hN hctE HNX hS
      go_wp2_with fail
      refine (l19Takes_any op N _ j5).mono ?_
      rintro e w2 ⟨rfl, q1⟩
      obtain ⟨hc, hf⟩ := bcell q1
      have a0 := hc wr.heap.size 0 (by first | omega | (simp; done) | (simp; omega))
      have a1 := hc wr.heap.size 1 (by first | omega | (simp; done) | (simp; omega))
      simp [go_sem] at a0 a1
      have z1 : wr.heap.size < w2.heap.size := by have := q1.size; simp at this; omega
      have b2 : Below wr.heap.size wr w2 := Below.trans (by repeat (first | with_reducible exact Below.refl _ _ | with_reducible refine Below.setCell ?_ (by first | omega | (simp; done) | (simp; omega)) _ | with_reducible refine bDrewN ?_ _ | with_reducible refine Below.drew ?_ | with_reducible refine Below.alloc ?_ (by first | omega | (simp; done) | (simp; omega)) _)) (q1.mono (by first | omega | (simp; done) | (simp; omega)))
      have HS2 := HS.out.below b2
      have HN2 : Hid (NsAt w1.heap.size w2 a S.N) := HN.out.same b2.size (b2.block _ HN.out.1)
      have HW2 : Hid (Below w1.heap.size w1 w2) := HW1.out.trans (b2.mono HW1.out.size)
      clear hc hf q1 b2 HS HN HW1 y0 y1 zg HB
      rcases HS2 with ⟨q, -⟩ | ⟨g2, cap2, eq, hgB, hgz, hcap, hfz, hcel, hsom⟩
      · cases q
      cases eq
      have hc : op = 1 ∨ op = 2 ∨ op = 3 ∨ op = 4 ∨ op = 5 ∨ op = 6 := by omega
      clear op0 op1
      rcases hc with rfl | rfl | rfl | rfl | rfl | rfl
      · obtain ⟨n0, n1⟩ := j1 (.inl rfl)
        obtain ⟨M, rfl⟩ : ∃ M : Nat, N = (M : Int) := ⟨N.toNat, by omega⟩
        have mI : (M : Int) < (a : Int) := by omega
        rw [show tkO 1 (M : Int) = 0 from rfl, show lyO 1 = 1 from rfl]
        obtain ⟨h, hSh⟩ : ∃ h, S.h = h := ⟨_, rfl⟩
        obtain ⟨F, hSf⟩ : ∃ F, S.F = F := ⟨_, rfl⟩
        rw [hSh] at hcap hcel hh es ⊢
        rw [hSf] at hcel
        have HSH : Hid (S.h = h ∧ S.F = F) := ⟨hSh, hSf⟩
        clear hSh hSf hSF es
        have hc1 : (h : Int) ≤ (cap : Int) := by omega
        have hh1 : (h : Int) ≤ 10 := by omega
        obtain ⟨ta, hta⟩ : ∃ ta : Addr, (if cap = h then some (⟨g, 0, none⟩ : Addr) else some ⟨g, h, none⟩) = some ta := by split; exact ⟨_, rfl⟩; exact ⟨_, rfl⟩
        have R0 : Hid (RowI w2 (some ta) 0 (fun _ => 0)) := fun j hj => absurd hj (Nat.not_lt_zero j)
        have HST : Hid (StkI (w1.heap.size + 1) w2 (.slice (some ⟨g, 0, none⟩) h cap) h F) := .inr ⟨g, cap, rfl, hgB, hgz, hcap, hfz, hcel, hsom⟩
        clear hcel hsom hfz
        go_upto_region 12 with (at_builtin; refine list_clone2 w2.heap.size ta 0 _ (fun _ => 0) (.tmp 52) (.tmp 58) (by rfl) (by rfl) (by rfl) (by first | exact congrArg (fun z => Value.slice z 0 _) hta | rfl) (by rfl) (by omega) (by exact R0.out) ?_; intro s3 cap3 w3 hO3 hB3; have HB3 : Hid (Below w2.heap.size w2 w3) := hB3; have e0 := (hB3.cell (p := ⟨wr.heap.size, 0, none⟩) z1).trans a0; have e1 := (hB3.cell (p := ⟨wr.heap.size, 1, none⟩) z1).trans a1; have z3 := Nat.lt_of_lt_of_le z1 hB3.size; clear hB3 hO3)
        have HS3 : Hid (StkI (w1.heap.size + 1) w3 (.slice (some ⟨g, 0, none⟩) h cap) h F) := HST.out.below HB3.out
        have HN3 : Hid (NsAt w1.heap.size w3 a S.N) := HN2.out.same HB3.out.size (HB3.out.block _ HN2.out.1)
        have HW3 : Hid (Below w1.heap.size w1 w3) := HW2.out.trans (HB3.out.mono HW2.out.size)
        have zB : Hid (w1.heap.size + 1 ≤ w3.heap.size) := HN3.out.1
        clear HB3 HST HN2 HW2 a0 a1 hta R0 hgz hgB
        have nM := HN3.out.2.2 M (by omega)
        have zN := HN3.out.1
        go_wp2_with (at_builtin; refine list_push2 (w1.heap.size + 1) _ h F (.tmp 70) (.tmp 76) (by rfl) (by rfl) (by rfl) (by rfl) (by exact HS3.out) (by exact zB.out) (by omega) ?_; intro g4 cap4 w4 hst hbl; have HS4 : Hid (StkI (w1.heap.size + 1) w4 (.slice (some ⟨g4, 0, none⟩) (h + 1) cap4) (h + 1) (puF F h (S.N M))) := hst; have HB4 : Hid (Below (w1.heap.size + 1) w3 w4) := hbl; clear hst hbl)
        have HN4 : Hid (NsAt w1.heap.size w4 a S.N) := HN3.out.same HB4.out.size (HB4.out.block _ (Nat.lt_succ_self _))
        have HW4 : Hid (Below w1.heap.size w1 w4) := HW3.out.trans (HB4.out.mono (Nat.le_succ _))
        have HX : Hid (exK V O I (k + 1) = ⟨h + 1, puF F h (S.N M), S.N⟩) := by show _ = _; rw [HE.out, exn1, HSH.out.1, HSH.out.2]
        go_roundw
        case rel => exact ⟨k + 1, g4, cap4, by omega, by go_num, by rw [HX.out], by rw [HX.out]; exact HS4.out, by rw [HX.out]; exact HN4.out, HW4.out⟩
        case measure => first | (simp [intOf]; done) | (simp [intOf]; omega)
      · obtain ⟨n0, n1⟩ := j1 (.inr (.inl rfl))
        obtain ⟨M, rfl⟩ : ∃ M : Nat, N = (M : Int) := ⟨N.toNat, by omega⟩
        have mI : (M : Int) < (a : Int) := by omega
        rw [show tkO 2 (M : Int) = 0 from rfl, show lyO 2 = 1 from rfl]
        obtain ⟨h, hSh⟩ : ∃ h, S.h = h := ⟨_, rfl⟩
        obtain ⟨F, hSf⟩ : ∃ F, S.F = F := ⟨_, rfl⟩
        rw [hSh] at hcap hcel hh es ⊢
        rw [hSf] at hcel
        have HSH : Hid (S.h = h ∧ S.F = F) := ⟨hSh, hSf⟩
        clear hSh hSf hSF es
        have hc1 : (h : Int) ≤ (cap : Int) := by omega
        have hh1 : (h : Int) ≤ 10 := by omega
        obtain ⟨ta, hta⟩ : ∃ ta : Addr, (if cap = h then some (⟨g, 0, none⟩ : Addr) else some ⟨g, h, none⟩) = some ta := by split; exact ⟨_, rfl⟩; exact ⟨_, rfl⟩
        have R0 : Hid (RowI w2 (some ta) 0 (fun _ => 0)) := fun j hj => absurd hj (Nat.not_lt_zero j)
        have HST : Hid (StkI (w1.heap.size + 1) w2 (.slice (some ⟨g, 0, none⟩) h cap) h F) := .inr ⟨g, cap, rfl, hgB, hgz, hcap, hfz, hcel, hsom⟩
        clear hcel hsom hfz
        go_upto_region 12 with (at_builtin; refine list_clone2 w2.heap.size ta 0 _ (fun _ => 0) (.tmp 52) (.tmp 58) (by rfl) (by rfl) (by rfl) (by first | exact congrArg (fun z => Value.slice z 0 _) hta | rfl) (by rfl) (by omega) (by exact R0.out) ?_; intro s3 cap3 w3 hO3 hB3; have HB3 : Hid (Below w2.heap.size w2 w3) := hB3; have e0 := (hB3.cell (p := ⟨wr.heap.size, 0, none⟩) z1).trans a0; have e1 := (hB3.cell (p := ⟨wr.heap.size, 1, none⟩) z1).trans a1; have z3 := Nat.lt_of_lt_of_le z1 hB3.size; clear hB3 hO3)
        have HS3 : Hid (StkI (w1.heap.size + 1) w3 (.slice (some ⟨g, 0, none⟩) h cap) h F) := HST.out.below HB3.out
        have HN3 : Hid (NsAt w1.heap.size w3 a S.N) := HN2.out.same HB3.out.size (HB3.out.block _ HN2.out.1)
        have HW3 : Hid (Below w1.heap.size w1 w3) := HW2.out.trans (HB3.out.mono HW2.out.size)
        have zB : Hid (w1.heap.size + 1 ≤ w3.heap.size) := HN3.out.1
        clear HB3 HST HN2 HW2 a0 a1 hta R0 hgz hgB
        obtain ⟨gO, oO, rfl, hgO, xO⟩ := HO.out M (by omega)
        have BW3 : Below w.heap.size w w3 := H1.out.trans (HW3.out.mono s1)
        have nM : w3.cell? ⟨gO, oO + M, none⟩ = some (.int .i64 (O M)) := (BW3.cell (p := ⟨gO, oO + M, none⟩) hgO).trans xO
        have zN : gO < w3.heap.size := Nat.lt_of_lt_of_le hgO BW3.size
        clear xO hgO BW3
        go_wp2_with (at_builtin; refine list_push2 (w1.heap.size + 1) _ h F (.tmp 80) (.tmp 86) (by rfl) (by rfl) (by rfl) (by rfl) (by exact HS3.out) (by exact zB.out) (by omega) ?_; intro g4 cap4 w4 hst hbl; have HS4 : Hid (StkI (w1.heap.size + 1) w4 (.slice (some ⟨g4, 0, none⟩) (h + 1) cap4) (h + 1) (puF F h (O M))) := hst; have HB4 : Hid (Below (w1.heap.size + 1) w3 w4) := hbl; clear hst hbl)
        have HN4 : Hid (NsAt w1.heap.size w4 a S.N) := HN3.out.same HB4.out.size (HB4.out.block _ (Nat.lt_succ_self _))
        have HW4 : Hid (Below w1.heap.size w1 w4) := HW3.out.trans (HB4.out.mono (Nat.le_succ _))
        have HX : Hid (exK V O I (k + 1) = ⟨h + 1, puF F h (O M), S.N⟩) := by show _ = _; rw [HE.out, exn2, HSH.out.1, HSH.out.2]
        go_roundw
        case rel => exact ⟨k + 1, g4, cap4, by omega, by go_num, by rw [HX.out], by rw [HX.out]; exact HS4.out, by rw [HX.out]; exact HN4.out, HW4.out⟩
        case measure => first | (simp [intOf]; done) | (simp [intOf]; omega)
      · rw [show tkO 3 N = 0 from rfl, show lyO 3 = 1 from rfl]
        obtain ⟨h, hSh⟩ : ∃ h, S.h = h := ⟨_, rfl⟩
        obtain ⟨F, hSf⟩ : ∃ F, S.F = F := ⟨_, rfl⟩
        rw [hSh] at hcap hcel hh es ⊢
        rw [hSf] at hcel
        have HSH : Hid (S.h = h ∧ S.F = F) := ⟨hSh, hSf⟩
        clear hSh hSf hSF es
        have hc1 : (h : Int) ≤ (cap : Int) := by omega
        have hh1 : (h : Int) ≤ 10 := by omega
        obtain ⟨ta, hta⟩ : ∃ ta : Addr, (if cap = h then some (⟨g, 0, none⟩ : Addr) else some ⟨g, h, none⟩) = some ta := by split; exact ⟨_, rfl⟩; exact ⟨_, rfl⟩
        have R0 : Hid (RowI w2 (some ta) 0 (fun _ => 0)) := fun j hj => absurd hj (Nat.not_lt_zero j)
        have HST : Hid (StkI (w1.heap.size + 1) w2 (.slice (some ⟨g, 0, none⟩) h cap) h F) := .inr ⟨g, cap, rfl, hgB, hgz, hcap, hfz, hcel, hsom⟩
        clear hcel hsom hfz
        go_upto_region 12 with (at_builtin; refine list_clone2 w2.heap.size ta 0 _ (fun _ => 0) (.tmp 52) (.tmp 58) (by rfl) (by rfl) (by rfl) (by first | exact congrArg (fun z => Value.slice z 0 _) hta | rfl) (by rfl) (by omega) (by exact R0.out) ?_; intro s3 cap3 w3 hO3 hB3; have HB3 : Hid (Below w2.heap.size w2 w3) := hB3; have e0 := (hB3.cell (p := ⟨wr.heap.size, 0, none⟩) z1).trans a0; have e1 := (hB3.cell (p := ⟨wr.heap.size, 1, none⟩) z1).trans a1; have z3 := Nat.lt_of_lt_of_le z1 hB3.size; clear hB3 hO3)
        have HS3 : Hid (StkI (w1.heap.size + 1) w3 (.slice (some ⟨g, 0, none⟩) h cap) h F) := HST.out.below HB3.out
        have HN3 : Hid (NsAt w1.heap.size w3 a S.N) := HN2.out.same HB3.out.size (HB3.out.block _ HN2.out.1)
        have HW3 : Hid (Below w1.heap.size w1 w3) := HW2.out.trans (HB3.out.mono HW2.out.size)
        have zB : Hid (w1.heap.size + 1 ≤ w3.heap.size) := HN3.out.1
        clear HB3 HST HN2 HW2 a0 a1 hta R0 hgz hgB
        go_wp2_with (at_builtin; refine list_push2 (w1.heap.size + 1) _ h F (.tmp 90) (.tmp 93) (by rfl) (by rfl) (by rfl) (by rfl) (by exact HS3.out) (by exact zB.out) (by omega) ?_; intro g4 cap4 w4 hst hbl; have HS4 : Hid (StkI (w1.heap.size + 1) w4 (.slice (some ⟨g4, 0, none⟩) (h + 1) cap4) (h + 1) (puF F h N)) := hst; have HB4 : Hid (Below (w1.heap.size + 1) w3 w4) := hbl; clear hst hbl)
        have HN4 : Hid (NsAt w1.heap.size w4 a S.N) := HN3.out.same HB4.out.size (HB4.out.block _ (Nat.lt_succ_self _))
        have HW4 : Hid (Below w1.heap.size w1 w4) := HW3.out.trans (HB4.out.mono (Nat.le_succ _))
        have HX : Hid (exK V O I (k + 1) = ⟨h + 1, puF F h N, S.N⟩) := by show _ = _; rw [HE.out, exn3, HSH.out.1, HSH.out.2]
        go_roundw
        case rel => exact ⟨k + 1, g4, cap4, by omega, by go_num, by rw [HX.out], by rw [HX.out]; exact HS4.out, by rw [HX.out]; exact HN4.out, HW4.out⟩
        case measure => first | (simp [intOf]; done) | (simp [intOf]; omega)
      · obtain ⟨n0, n1⟩ := j4 rfl
        obtain ⟨M, rfl⟩ : ∃ M : Nat, N = (M : Int) := ⟨N.toNat, by omega⟩
        have mI : (M : Int) < (ni : Int) := by omega
        rw [show tkO 4 (M : Int) = 0 from rfl, show lyO 4 = 1 from rfl]
        obtain ⟨h, hSh⟩ : ∃ h, S.h = h := ⟨_, rfl⟩
        obtain ⟨F, hSf⟩ : ∃ F, S.F = F := ⟨_, rfl⟩
        rw [hSh] at hcap hcel hh es ⊢
        rw [hSf] at hcel
        have HSH : Hid (S.h = h ∧ S.F = F) := ⟨hSh, hSf⟩
        clear hSh hSf hSF es
        have hc1 : (h : Int) ≤ (cap : Int) := by omega
        have hh1 : (h : Int) ≤ 10 := by omega
        obtain ⟨ta, hta⟩ : ∃ ta : Addr, (if cap = h then some (⟨g, 0, none⟩ : Addr) else some ⟨g, h, none⟩) = some ta := by split; exact ⟨_, rfl⟩; exact ⟨_, rfl⟩
        have R0 : Hid (RowI w2 (some ta) 0 (fun _ => 0)) := fun j hj => absurd hj (Nat.not_lt_zero j)
        have HST : Hid (StkI (w1.heap.size + 1) w2 (.slice (some ⟨g, 0, none⟩) h cap) h F) := .inr ⟨g, cap, rfl, hgB, hgz, hcap, hfz, hcel, hsom⟩
        clear hcel hsom hfz
        go_upto_region 12 with (at_builtin; refine list_clone2 w2.heap.size ta 0 _ (fun _ => 0) (.tmp 52) (.tmp 58) (by rfl) (by rfl) (by rfl) (by first | exact congrArg (fun z => Value.slice z 0 _) hta | rfl) (by rfl) (by omega) (by exact R0.out) ?_; intro s3 cap3 w3 hO3 hB3; have HB3 : Hid (Below w2.heap.size w2 w3) := hB3; have e0 := (hB3.cell (p := ⟨wr.heap.size, 0, none⟩) z1).trans a0; have e1 := (hB3.cell (p := ⟨wr.heap.size, 1, none⟩) z1).trans a1; have z3 := Nat.lt_of_lt_of_le z1 hB3.size; clear hB3 hO3)
        have HS3 : Hid (StkI (w1.heap.size + 1) w3 (.slice (some ⟨g, 0, none⟩) h cap) h F) := HST.out.below HB3.out
        have HN3 : Hid (NsAt w1.heap.size w3 a S.N) := HN2.out.same HB3.out.size (HB3.out.block _ HN2.out.1)
        have HW3 : Hid (Below w1.heap.size w1 w3) := HW2.out.trans (HB3.out.mono HW2.out.size)
        have zB : Hid (w1.heap.size + 1 ≤ w3.heap.size) := HN3.out.1
        clear HB3 HST HN2 HW2 a0 a1 hta R0 hgz hgB
        obtain ⟨gO, oO, rfl, hgO, xO⟩ := HI.out M (by omega)
        have BW3 : Below w.heap.size w w3 := H1.out.trans (HW3.out.mono s1)
        have nM : w3.cell? ⟨gO, oO + M, none⟩ = some (.int .i64 (I M)) := (BW3.cell (p := ⟨gO, oO + M, none⟩) hgO).trans xO
        have zN : gO < w3.heap.size := Nat.lt_of_lt_of_le hgO BW3.size
        clear xO hgO BW3
        go_wp2_with (at_builtin; refine list_push2 (w1.heap.size + 1) _ h F (.tmp 97) (.tmp 103) (by rfl) (by rfl) (by rfl) (by rfl) (by exact HS3.out) (by exact zB.out) (by omega) ?_; intro g4 cap4 w4 hst hbl; have HS4 : Hid (StkI (w1.heap.size + 1) w4 (.slice (some ⟨g4, 0, none⟩) (h + 1) cap4) (h + 1) (puF F h (I M))) := hst; have HB4 : Hid (Below (w1.heap.size + 1) w3 w4) := hbl; clear hst hbl)
        have HN4 : Hid (NsAt w1.heap.size w4 a S.N) := HN3.out.same HB4.out.size (HB4.out.block _ (Nat.lt_succ_self _))
        have HW4 : Hid (Below w1.heap.size w1 w4) := HW3.out.trans (HB4.out.mono (Nat.le_succ _))
        have HX : Hid (exK V O I (k + 1) = ⟨h + 1, puF F h (I M), S.N⟩) := by show _ = _; rw [HE.out, exn4, HSH.out.1, HSH.out.2]
        go_roundw
        case rel => exact ⟨k + 1, g4, cap4, by omega, by go_num, by rw [HX.out], by rw [HX.out]; exact HS4.out, by rw [HX.out]; exact HN4.out, HW4.out⟩
        case measure => first | (simp [intOf]; done) | (simp [intOf]; omega)
      · obtain ⟨n0, n1⟩ := j5 rfl
        have et : tkO 5 N = ((tkL (N.toNat - 1)).length : Int) := rfl
        have tl := tkL_le (N.toNat - 1)
        obtain ⟨t, htt⟩ : ∃ t, (tkL (N.toNat - 1)).length = t := ⟨_, rfl⟩
        have HTT : Hid (t = (tkL (N.toNat - 1)).length) := htt.symm
        have tp := tk_pos n0 n1
        rw [htt] at et tl tp
        rw [et] at j6
        rw [et, show lyO 5 = 1 from rfl]
        clear et htt
        obtain ⟨h, hSh⟩ : ∃ h, S.h = h := ⟨_, rfl⟩
        obtain ⟨F, hSf⟩ : ∃ F, S.F = F := ⟨_, rfl⟩
        rw [hSh] at hcap hcel hh es hSF ⊢
        rw [hSf] at hcel hSF
        have HSH : Hid (S.h = h ∧ S.F = F) := ⟨hSh, hSf⟩
        clear hSh hSf
        obtain ⟨L, rfl⟩ : ∃ L, h = L + t := ⟨h - t, by omega⟩
        have eL : L + t - t = L := by omega
        have x1 : ((L + t : Nat) : Int) - (t : Int) = (L : Int) := by omega
        have x2 : (t : Int) ≤ 3 := by omega
        have x3 : ((L + t : Nat) : Int) ≤ 10 := by omega
        have x4 : ((L + t : Nat) : Int) ≤ (cap : Int) := by omega
        have x5 : (L : Int) ≤ ((L + t : Nat) : Int) := by omega
        have x6 : (L : Int) ≤ (cap : Int) := by omega
        have x7 : ¬ cap = L := by omega
        have R0 : Hid (RowI w2 (some ⟨g, L, none⟩) t (fun j => F (L + j))) := fun j hj => ⟨g, L, rfl, hgz, hcel _ (by omega)⟩
        have HST : Hid (StkI (w1.heap.size + 1) w2 (.slice (some ⟨g, 0, none⟩) L cap) L F) := .inr ⟨g, cap, rfl, hgB, hgz, by omega, hfz, fun j hj => hcel j (by omega), hsom⟩
        have HSF : Hid (∀ j, j < L + t → -1000000 ≤ F j ∧ F j ≤ 1000000) := hSF
        clear hcel hsom hfz hSF es
        go_upto_region 12 with (at_builtin; refine list_clone2 w2.heap.size ⟨g, L, none⟩ t _ (fun j => F (L + j)) (.tmp 52) (.tmp 58) (by rfl) (by rfl) (by rfl) (by rfl) (by rfl) (by omega) (by exact R0.out) ?_; intro s3 cap3 w3 hO3 hB3; have HO3 : Hid (OwnI w2.heap.size w3 s3 t (fun j => F (L + j))) := hO3; have HB3 : Hid (Below w2.heap.size w2 w3) := hB3; have e0 := (hB3.cell (p := ⟨wr.heap.size, 0, none⟩) z1).trans a0; have e1 := (hB3.cell (p := ⟨wr.heap.size, 1, none⟩) z1).trans a1; have z3 := Nat.lt_of_lt_of_le z1 hB3.size; clear hB3 hO3)
        have HS3 : Hid (StkI (w1.heap.size + 1) w3 (.slice (some ⟨g, 0, none⟩) L cap) L F) := HST.out.below HB3.out
        have HN3 : Hid (NsAt w1.heap.size w3 a S.N) := HN2.out.same HB3.out.size (HB3.out.block _ HN2.out.1)
        have HW3 : Hid (Below w1.heap.size w1 w3) := HW2.out.trans (HB3.out.mono HW2.out.size)
        have zB : Hid (w1.heap.size + 1 ≤ w3.heap.size) := HN3.out.1
        have zO : Hid (w1.heap.size < w2.heap.size) := HN2.out.1
        clear HB3 HST HN2 HW2 a0 a1 R0 hgz hgB
        have HGV : Hid (∀ w, OwnI w2.heap.size w s3 t (fun j => F (L + j)) → Calls Try.prog 28 #[.int .i64 N, .slice s3 t cap3, .int .i64 0, .int .i64 0] w fun e w' => e = .returned (.int .i64 (gvV N (F (L + 0)) (F (L + 1)) (F (L + 2)))) ∧ w' = w) := fun w hO => l18Gives_any N s3 t cap3 w2.heap.size (fun j => F (L + j)) w n0 n1 HTT.out (fun j hj => HSF.out _ (by omega)) hO
        obtain ⟨G, hG⟩ : ∃ G, gvV N (F (L + 0)) (F (L + 1)) (F (L + 2)) = G := ⟨_, rfl⟩
        rw [hG] at HGV
        have HX : Hid (exK V O I (k + 1) = ⟨L + 1, puF F L (clipV G), S.N⟩) := by show _ = _; rw [HE.out, exn5, ← HTT.out, HSH.out.1, HSH.out.2, eL, ← hG]; rfl
        clear hG
        go_wp2_with fail
        refine (HGV.out _ HO3.out).mono ?_
        rintro e w3 ⟨rfl, rfl⟩
        go_wp2_with fail
        refine (l18Clip_any G _).mono ?_
        rintro e w3 ⟨rfl, rfl⟩
        obtain ⟨Y, hY⟩ : ∃ Y, clipV G = Y := ⟨_, rfl⟩
        rw [hY] at HX ⊢
        clear hY
        go_wp2_with (at_builtin; refine list_push2 (w1.heap.size + 1) _ L F (.tmp 107) (.tmp 113) (by rfl) (by rfl) (by rfl) (by rfl) (by exact HS3.out) (by exact zB.out) (by omega) ?_; intro g4 cap4 w4 hst hbl; have HS4 : Hid (StkI (w1.heap.size + 1) w4 (.slice (some ⟨g4, 0, none⟩) (L + 1) cap4) (L + 1) (puF F L Y)) := hst; have HB4 : Hid (Below (w1.heap.size + 1) w3 w4) := hbl; clear hst hbl)
        have HN4 : Hid (NsAt w1.heap.size w4 a S.N) := HN3.out.same HB4.out.size (HB4.out.block _ (Nat.lt_succ_self _))
        have HW4 : Hid (Below w1.heap.size w1 w4) := HW3.out.trans (HB4.out.mono (Nat.le_succ _))
        go_roundw
        case rel => exact ⟨k + 1, g4, cap4, by omega, by go_num, by rw [HX.out], by rw [HX.out]; exact HS4.out, by rw [HX.out]; exact HN4.out, HW4.out⟩
        case measure => first | (simp [intOf]; done) | (simp [intOf]; omega)
      · obtain ⟨n0, n1⟩ := j1 (.inr (.inr rfl))
        obtain ⟨M, rfl⟩ : ∃ M : Nat, N = (M : Int) := ⟨N.toNat, by omega⟩
        have mI : (M : Int) < (a : Int) := by omega
        have et : tkO 6 (M : Int) = 1 := rfl
        rw [et] at j6
        rw [et, show lyO 6 = 0 from rfl]
        clear et
        obtain ⟨h, hSh⟩ : ∃ h, S.h = h := ⟨_, rfl⟩
        obtain ⟨F, hSf⟩ : ∃ F, S.F = F := ⟨_, rfl⟩
        rw [hSh] at hcap hcel hh es hSF ⊢
        rw [hSf] at hcel hSF
        have HSH : Hid (S.h = h ∧ S.F = F) := ⟨hSh, hSf⟩
        clear hSh hSf
        obtain ⟨L, rfl⟩ : ∃ L, h = L + 1 := ⟨h - 1, by omega⟩
        have eL : L + 1 - 1 = L := by omega
        have x1 : ((L + 1 : Nat) : Int) - (1 : Int) = (L : Int) := by omega
        have x3 : ((L + 1 : Nat) : Int) ≤ 10 := by omega
        have x4 : ((L + 1 : Nat) : Int) ≤ (cap : Int) := by omega
        have x5 : (L : Int) ≤ ((L + 1 : Nat) : Int) := by omega
        have x6 : (L : Int) ≤ (cap : Int) := by omega
        have x7 : ¬ cap = L := by omega
        have R0 : Hid (RowI w2 (some ⟨g, L, none⟩) 1 (fun j => F (L + j))) := fun j hj => ⟨g, L, rfl, hgz, hcel _ (by omega)⟩
        have HST : Hid (StkI (w1.heap.size + 1) w2 (.slice (some ⟨g, 0, none⟩) L cap) L F) := .inr ⟨g, cap, rfl, hgB, hgz, by omega, hfz, fun j hj => hcel j (by omega), hsom⟩
        have HSF : Hid (∀ j, j < L + 1 → -1000000 ≤ F j ∧ F j ≤ 1000000) := hSF
        clear hcel hsom hfz hSF es
        go_upto_region 12 with (at_builtin; refine list_clone2 w2.heap.size ⟨g, L, none⟩ 1 _ (fun j => F (L + j)) (.tmp 52) (.tmp 58) (by rfl) (by rfl) (by rfl) (by rfl) (by rfl) (by omega) (by exact R0.out) ?_; intro s3 cap3 w3 hO3 hB3; have HO3 : Hid (OwnI w2.heap.size w3 s3 1 (fun j => F (L + j))) := hO3; have HB3 : Hid (Below w2.heap.size w2 w3) := hB3; have e0 := (hB3.cell (p := ⟨wr.heap.size, 0, none⟩) z1).trans a0; have e1 := (hB3.cell (p := ⟨wr.heap.size, 1, none⟩) z1).trans a1; have z3 := Nat.lt_of_lt_of_le z1 hB3.size; clear hB3 hO3)
        have HS3 : Hid (StkI (w1.heap.size + 1) w3 (.slice (some ⟨g, 0, none⟩) L cap) L F) := HST.out.below HB3.out
        have HN3 : Hid (NsAt w1.heap.size w3 a S.N) := HN2.out.same HB3.out.size (HB3.out.block _ HN2.out.1)
        have HW3 : Hid (Below w1.heap.size w1 w3) := HW2.out.trans (HB3.out.mono HW2.out.size)
        have zB : Hid (w1.heap.size + 1 ≤ w3.heap.size) := HN3.out.1
        have zO : Hid (w1.heap.size < w2.heap.size) := HN2.out.1
        clear HB3 HST HN2 HW2 a0 a1 R0 hgz hgB
        have HX : Hid (exK V O I (k + 1) = ⟨L, F, seF S.N M (F L)⟩) := by show _ = _; rw [HE.out, exn6, HSH.out.1, HSH.out.2, eL]
        obtain ⟨b3, rfl, hb3, zb3, c3, -⟩ := HO3.out 0 (by omega)
        simp only [Nat.add_zero] at c3
        obtain ⟨zn, nf, nc⟩ := HN3.out
        have nM := nc M (by omega)
        have nfM := nf M
        clear nc nf
        have nb : ¬ b3 = w1.heap.size := by have := zO.out; omega
        have HS4 : Hid (StkI (w1.heap.size + 1) (w3.setCell ⟨w1.heap.size, M, none⟩ (.int .i64 (F L))) (.slice (some ⟨g, 0, none⟩) L cap) L F) := HS3.out.beside (Beside.setCell _ _ _ _) (Nat.lt_succ_self _)
        have HN4 : Hid (NsAt w1.heap.size (w3.setCell ⟨w1.heap.size, M, none⟩ (.int .i64 (F L))) a (seF S.N M (F L))) := HN3.out.set (by omega) (F L)
        have HW4 : Hid (Below w1.heap.size w1 (w3.setCell ⟨w1.heap.size, M, none⟩ (.int .i64 (F L)))) := HW3.out.trans ((Beside.setCell _ _ _ _).below (Nat.le_refl _) HW3.out.size)
        go_wp2_with fail
        go_region
        all_goals
          go_wp2
          go_roundw
          case rel => exact ⟨k + 1, g, cap, by omega, by go_num, by rw [HX.out], by rw [HX.out]; exact HS4.out.below (by repeat (first | with_reducible exact Below.refl _ _ | with_reducible refine Below.setCell ?_ (by first | omega | (simp; done) | (simp; omega)) _ | with_reducible refine bDrewN ?_ _ | with_reducible refine Below.drew ?_ | with_reducible refine Below.alloc ?_ (by first | omega | (simp; done) | (simp; omega)) _)), by rw [HX.out]; exact HN4.out.same (by simp) rfl, HW4.out.trans (Below.mono (by repeat (first | with_reducible exact Below.refl _ _ | with_reducible refine Below.setCell ?_ (by first | omega | (simp; done) | (simp; omega)) _ | with_reducible refine bDrewN ?_ _ | with_reducible refine Below.drew ?_ | with_reducible refine Below.alloc ?_ (by first | omega | (simp; done) | (simp; omega)) _)) HW4.out.size)⟩
          case measure => first | (simp [intOf]; done) | (simp [intOf]; omega)
    · obtain rfl : k = n := by omega
      rw [← hS] at HN
      obtain ⟨zn, nf, nc⟩ := HN.out
      have HOW : Hid (OwnI w.heap.size wr (some ⟨w1.heap.size, 0, none⟩) a (exK V O I k).N) := fun j hj => ⟨_, rfl, s1, zn, nc j hj, nf j⟩
      have BX := HB
      clear hS es hSF nc nf HB
      go_wp2
      exact bodyPost_ret (v := .tuple #[.slice (some ⟨w1.heap.size, 0, none⟩) a a, .bool true]) (by simp [results, Try.results8, go_sem]) rfl (ex_yes HZ.out HOW.out BX)
end Go.Proofs.Ytdidgbibbkhnhaa
