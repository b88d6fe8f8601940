/-
What is proved: FnSeqEnds: a plan that is drawn, run for as many ticks as its bound tells, none of them held, ends in a mode that Ends tells of its first step; no condition.
-/
import Derived.Test.YtlbhdlieeilbdaaTkA
import Derived.Test.YtlbhdlieeilbdaaPnD
import Derived.Test.YtlbhdlieeilbdaaBnS
import Derived.Test.YtlbhdlieeilbdaaEnS
import Derived.Test.YtlbhdlieeilbdaaSrIX
import Derived.Test.YtlbhdlieeilbdaaOpen8
import Derived.Deep.RegionHeldLaw
namespace Go.Proofs.Ytlbhdlieeilbdaa
set_option maxRecDepth 40000
open Go.ChangeShapes Go.WideShapes Go.ChangeAt Go.RowKit
set_option linter.unusedVariables false
set_option linter.unusedSimpArgs false

set_option maxHeartbeats 400000 in
theorem seqEnds_far (w : World) (s : Option Addr) (n c : Nat) (h : (1048576 : Int) < n) :
    Calls Try.prog 3 #[.slice s n c] w fun e w' => e = .returned (.bool true) ∧ Below w.heap.size w w' := by
  go_enter Try.func3, Try.ntmps3
  go_wp2_with fail
  refine (big_yes _ _ _ _ h).mono ?_
  rintro e w1 ⟨rfl, rfl⟩
  go_wp2
  go_ret
  exact ⟨rfl, Below.refl _ _⟩
theorem bnd_plan {n : Nat} {V : Nat → Int} {m : Nat} (h : bndV n V = (m : Int)) : planB n V = true := by
  cases e : planB n V
  · rw [bndV_no e] at h; omega
  · rfl
theorem end_few {n : Nat} {V : Nat → Int} (hp : planB n V = true) : (endV n V 0).length ≤ 3 := by
  have hn : 0 < n := by have := (plan_yes hp).1; omega
  have e0 : endV n V 0 = etR V (pls (dA n hn n)) 0 := endV_yes hp (by omega) (by omega) hn
  rw [e0, end_mdL hp _ (pls_in _) 0]
  exact mdL_len _ 3
set_option maxRecDepth 20000 in
set_option maxHeartbeats 16000000 in
theorem seqEnds_near (w : World) (s : Option Addr) (n c : Nat) (hn : (n : Int) ≤ 1048576) (HC8 : Hid (Code8 w s n)) :
    Calls Try.prog 3 #[.slice s n c] w fun e w' => e = .returned (.bool true) ∧ Below w.heap.size w w' := by
  go_enter Try.func3, Try.ntmps3
  go_wp2_with fail
  refine (big_no _ _ _ _ hn).mono ?_
  rintro e w1 ⟨rfl, rfl⟩
  rename World => w
  go_wp2_with fail
  refine (drawBound_any HC8).mono ?_
  rintro e w2 h2
  unfold DbPost at h2
  obtain ⟨t, m, cap, V, rfl, m1, m41, R2, B2⟩ := h2
  have HR : Hid (RowI w2 t (m * 5) V) := R2
  have HB : Hid (Below w.heap.size w w2) := B2
  have m5 : (m : Int) ≤ 1048576 := by omega
  clear R2 B2 m1 m41
  go_wp2_with fail
  refine (implBound_any t m cap V w2 m5 HR.out).mono ?_
  rintro e w3 ⟨rfl, b3⟩
  replace HR : Hid (RowI w3 t (m * 5) V) := HR.out.below b3
  replace HB : Hid (Below w.heap.size w w3) := HB.out.trans (b3.mono HB.out.size)
  obtain ⟨N, hN⟩ : ∃ N, bndV m V = N := ⟨_, rfl⟩
  have HN : Hid (bndV m V = N) := hN
  rw [hN]
  clear hN b3
  go_wp2_with fail
  refine (specBound_any t m cap V w3 m5 HR.out).mono ?_
  rintro e w4 ⟨rfl, b4⟩
  replace HR : Hid (RowI w4 t (m * 5) V) := HR.out.below b4
  replace HB : Hid (Below w.heap.size w w4) := HB.out.trans (b4.mono HB.out.size)
  rw [HN.out]
  clear b4
  by_cases hc : N < 0 ∨ 1000 < N
  case pos =>
    have BF := HB.out
    by_cases h0 : N < 0
    case pos =>
      go_wp2
      go_ret
      first | exact ⟨rfl, BF⟩ | exact ⟨by simp, BF⟩
    case neg =>
      have h9 : 1000 < N := by omega
      clear hc
      go_wp2
      go_ret
      first | exact ⟨rfl, BF⟩ | exact ⟨by simp, BF⟩
  case neg =>
  obtain ⟨q, rfl⟩ : ∃ q : Nat, N = (q : Int) := ⟨N.toNat, by omega⟩
  have q1 : (q : Int) ≤ 1000 := by omega
  have q0 : ¬ (q : Int) < 0 := by omega
  have q2 : ¬ 1000 < (q : Int) := by omega
  clear hc
  have HC : Hid (Code8 w4 s n) := HC8.out.below HB.out
  clear HC8
  go_upto_region 10 with fail
  obtain ⟨w5, hw5⟩ : ∃ z, z = w4.alloc (.cells #[] 29) := ⟨_, rfl⟩
  rw [← hw5]
  have HX : Hid (Below w4.heap.size w4 w5) := by show Below _ _ _; rw [hw5]; exact below0 _ _
  have HT : Hid (TkO w4.heap.size w5 (.slice (some ⟨w4.heap.size, 0, none⟩) 0 0) 0 (fun _ => 0)) := by show TkO _ _ _ _ _; rw [hw5]; exact TkO.lit w4 _
  clear hw5
  go_wp2_with fail
  go_loopw [5, 6] (fun v i wr => ∃ (k : Nat) (S : Nat → Int), k ≤ q ∧ i = .int .i64 (k : Int) ∧ Hid (TkO w4.heap.size wr v k S) ∧ Hid (∀ j, j < k → 0 ≤ S j ∧ S j ≤ 65535) ∧ Hid (Below w4.heap.size w4 wr)) (fun _ i _ => q - (intOf i).toNat)
  case atStart => exact ⟨0, fun _ => 0, by omega, rfl, HT, fun j hj => by omega, HX⟩
  case round =>
  clear HT HX
  obtain ⟨k, S, hk, rfl, HT, HS, HX⟩ := hrel
  by_cases hlt : k < q
  case pos =>
    have k1 : (k : Int) < (q : Int) := by omega
    have zl_ : w4.heap.size ≤ wr.heap.size := HX.out.size
    have fin : ∀ x : Int, 0 ≤ x → x ≤ 65535 → Hid (∀ j, j < k + 1 → 0 ≤ (fun j => if j = k then x else S j) j ∧ (fun j => if j = k then x else S j) j ≤ 65535) := fun x h0 h1 j hj => by
      by_cases e : j = k
      · simp only [if_pos e]; exact ⟨h0, h1⟩
      · simp only [if_neg e]; exact HS.out j (by omega)
    have FIN : Hid (∀ x : Int, 0 ≤ x → x ≤ 65535 → Hid (∀ j, j < k + 1 → 0 ≤ (fun j => if j = k then x else S j) j ∧ (fun j => if j = k then x else S j) j ≤ 65535)) := fin
    clear fin HS
    by_cases hz : n = 0
    case pos =>
      subst hz
      go_wp2_with (at_builtin; refine list_Tk w4.heap.size u5 k S (.tmp 48) (.tmp 51) (by rfl) (by rfl) (by rfl) (by rfl) HT.out (by omega) (by omega) ?_; intro g9 cap9 w9 l9 b9)
      have HX9 : Hid (Below w4.heap.size w4 w9) := HX.out.trans b9
      have HT9 : Hid (TkO w4.heap.size w9 (.slice (some ⟨g9, 0, none⟩) (k + 1) cap9) (k + 1) (fun j => if j = k then 0 else S j)) := l9
      clear l9 b9
      go_roundw
      case rel => exact ⟨k + 1, _, by omega, by go_num, HT9, FIN.out 0 (by omega) (by omega), HX9⟩
      case measure => simp [intOf]; omega
    case neg =>
      have n0 : (0 : Int) < (n : Int) := by omega
      have n0' : (n : Int) ≠ 0 := by omega
      obtain ⟨ix, hj, hl⟩ : ∃ ix : Nat, (k : Int) % (n : Int) = (ix : Int) ∧ ix < n := ⟨k % n, by omega, Nat.mod_lt _ (by omega)⟩
      have ix1 : (ix : Int) < (n : Int) := by omega
      obtain ⟨g, o, y, rfl, hg, hcy, y0, y1⟩ := HC.out.2 ix hl
      have cy := (HX.out.cell (p := ⟨g, o + ix, none⟩) hg).trans hcy
      obtain ⟨z, hz2⟩ : ∃ z, y * y = z := ⟨_, rfl⟩
      have z0 : 0 ≤ z := by rw [← hz2]; exact Int.mul_nonneg y0 y0
      have z1 : z ≤ 65025 := by rw [← hz2]; exact Int.le_trans (Int.mul_le_mul (show y ≤ 255 by omega) (show y ≤ 255 by omega) y0 (by omega)) (by omega)
      have z2 : z % 65536 = z := by omega
      have wz : IntKind.i64.wrap z = z := by rw [IntKind.wrap_i64]; omega
      clear hg hcy
      go_wp2_with (at_builtin; refine list_Tk w4.heap.size u5 k S (.tmp 48) (.tmp 51) (by rfl) (by rfl) (by rfl) (by rfl) HT.out (by omega) (by omega) ?_; intro g9 cap9 w9 l9 b9)
      have HX9 : Hid (Below w4.heap.size w4 w9) := HX.out.trans b9
      have HT9 : Hid (TkO w4.heap.size w9 (.slice (some ⟨g9, 0, none⟩) (k + 1) cap9) (k + 1) (fun j => if j = k then z else S j)) := l9
      clear l9 b9
      go_roundw
      case rel => exact ⟨k + 1, _, by omega, by go_num, HT9, FIN.out _ (by omega) (by omega), HX9⟩
      case measure => simp [intOf]; omega
  case neg =>
    obtain rfl : k = q := by omega
    clear hk hlt HC
    rename World => wa
    have hp := bnd_plan HN.out
    obtain ⟨t2, cap2, rfl, hrow⟩ := HT.out.row
    have HRT : Hid (RowTick wa t2 k (fun j => (S j, false))) := hrow
    have hsr : srB m V k (fun j => (S j, false)) = true := by
      unfold srB
      rw [hp, Bool.true_and, decide_eq_true_iff]
      refine ⟨by omega, fun j hj => ?_⟩
      have := HS.out j hj
      unfold inB
      simp
      omega
    obtain ⟨hM, hE⟩ := run_end hp (fun j => (S j, false)) (fun _ => rfl) HN.out
    obtain ⟨eM, eE⟩ := sr_yes hsr
    obtain ⟨A, hA⟩ : ∃ A, (stR V (fun j => (S j, false)) k).1 = A := ⟨_, rfl⟩
    obtain ⟨B, hB2⟩ : ∃ B, (stR V (fun j => (S j, false)) k).2 = B := ⟨_, rfl⟩
    rw [hA] at hM hE
    have a1 : A < 0 := by have := mod_yes hM; omega
    have HA : Hid (A ∈ endV m V 0) := hE
    have HL : Hid ((endV m V 0).length ≤ 3) := end_few hp
    have HRa : Hid (RowI wa t (m * 5) V) := HR.out.below HX.out
    have HBa : Hid (Below w.heap.size w wa) := HB.out.trans (HX.out.mono HB.out.size)
    have HSR : Hid (∀ W, RowI W t (m * 5) V → RowTick W t2 k (fun j => (S j, false)) → Calls Try.prog 12 #[.slice t m cap, .slice t2 k cap2] W fun e w' => ∃ s' c', e = .returned (.tuple #[.slice s' k c', .agg #[.int .i64 A, .int .i64 B], .bool true]) ∧ Below W.heap.size W w') := fun W r1 r2 =>
      (implSeqRun_any t m cap V t2 k cap2 _ W m5 (by omega) r1 r2).mono (by
        rintro e w' h
        unfold SrPost at h
        obtain ⟨s', c', rfl, -, hb⟩ := h
        rw [hsr, eM, eE, hA, hB2]
        exact ⟨s', c', rfl, hb⟩)
    clear hsr eM eE hA hB2 hM hE hrow HS HT HX HR HB HN
    go_wp2_with fail
    refine (HSR.out wa HRa.out HRT.out).mono ?_
    rintro e wc ⟨s', c', rfl, b6⟩
    replace HRa : Hid (RowI wc t (m * 5) V) := HRa.out.below b6
    replace HBa : Hid (Below w.heap.size w wc) := HBa.out.trans (b6.mono HBa.out.size)
    clear b6 HSR HRT
    go_upto_region 19 with fail
    obtain ⟨wd, hwd⟩ : ∃ z, z = wc.alloc (.cells #[.int .i64 A, .int .i64 B] 32) := ⟨_, rfl⟩
    obtain ⟨ga, hga⟩ : ∃ g, g = wc.heap.size := ⟨_, rfl⟩
    rw [← hwd, ← hga]
    have hBlk : Blk wd ga [.int .i64 A, .int .i64 B] := by rw [hwd, hga]; exact Blk.new wc #[.int .i64 A, .int .i64 B] _
    have b7 : Below wc.heap.size wc wd := by rw [hwd]; exact below0 _ _
    replace HRa : Hid (RowI wd t (m * 5) V) := HRa.out.below b7
    replace HBa : Hid (Below w.heap.size w wd) := HBa.out.trans (b7.mono HBa.out.size)
    have zg : ga < wd.heap.size := hBlk.1
    have c0 : wd.cell? ⟨ga, 0, none⟩ = some (.int .i64 A) := hBlk.2.2 0 _ rfl
    have C0 : Hid (wd.cell? ⟨ga, 0, none⟩ = some (.int .i64 A)) := c0
    have HEN : Hid (∀ W, RowI W t (m * 5) V → Calls Try.prog 14 #[.slice t m cap, .int .i64 0] W fun e w' => ∃ s' c', e = .returned (.slice s' (endV m V 0).length c') ∧ Hid (RowI w' s' (endV m V 0).length (fun j => (endV m V 0).getD j 0)) ∧ Below W.heap.size W w') := fun W r1 =>
      (implEnds_any t m cap V 0 W m5 r1).mono (by
        rintro e w' ⟨s', c', rfl, ho, hb⟩
        exact ⟨s', c', rfl, ho.row, hb⟩)
    clear hwd hga hBlk b7
    refine wp_region_held_drew (S := fun w' => w'.cell? ⟨ga, 0, none⟩ = some (.int .i64 A)) (by kernel_rfl) ?_ (fun hHeld => ?_)
    · simpa [go_sem] using c0
    obtain ⟨v0, hv0⟩ : ∃ z, z = wd.drew := ⟨_, rfl⟩
    try rw [← hv0] at hHeld
    rw [← hv0]
    have bv0 : Below wd.heap.size wd v0 := by rw [hv0]; exact Below.drew (Below.refl _ _)
    clear hv0
    have HB9 : Hid (Below wd.heap.size wd v0) := bv0
    clear bv0 c0
    refine wpAnyH_take (i := 0) (v := .bool true) rfl (by kernel_rfl) (by kernel_rfl) (by kernel_rfl) (fun _ _ _ h => h) (Or.inl ⟨by kernel_rfl, ?_⟩) hHeld ?_
    · intro w' hSw
      first | (go_simp; done) | (go_simp; with_reducible rfl) | (go_simp; rw [IntKind.wrap_i64]; omega) | (go_simp; omega)
    simp only [Act.put, List.setIfInBounds_toArray, List.set_cons_zero, List.set_cons_succ]
    refine wpAnyH_take (i := 1) (v := .bool true) rfl (by kernel_rfl) (by kernel_rfl) (by kernel_rfl) (fun _ _ _ h => h) (Or.inl ⟨by kernel_rfl, ?_⟩) hHeld ?_
    · intro w' hSw
      first | (go_simp; done) | (go_simp; with_reducible rfl) | (go_simp; rw [IntKind.wrap_i64]; omega) | (go_simp; omega)
    simp only [Act.put, List.setIfInBounds_toArray, List.set_cons_zero, List.set_cons_succ]
    refine wpAnyH_take (i := 2) (v := .pointer (some ⟨ga, 0, none⟩)) rfl (by kernel_rfl) (by kernel_rfl) (by kernel_rfl) (fun _ _ _ h => h) (Or.inl ⟨by kernel_rfl, ?_⟩) hHeld ?_
    · intro w' hSw
      first | (go_simp; done) | (go_simp; with_reducible rfl) | (go_simp; rw [IntKind.wrap_i64]; omega) | (go_simp; omega)
    simp only [Act.put, List.setIfInBounds_toArray, List.set_cons_zero, List.set_cons_succ]
    refine wpAnyH_take (i := 3) (v := .int .i64 A) rfl (by kernel_rfl) (by kernel_rfl) (by kernel_rfl) (fun _ _ _ h => h) (Or.inl ⟨by kernel_rfl, ?_⟩) hHeld ?_
    · intro w' hSw
      first | (go_simp; done) | (go_simp; with_reducible rfl) | (go_simp; rw [IntKind.wrap_i64]; omega) | (go_simp; omega)
    simp only [Act.put, List.setIfInBounds_toArray, List.set_cons_zero, List.set_cons_succ]
    refine wpAnyH_take (i := 4) (v := .bool true) rfl (by kernel_rfl) (by kernel_rfl) (by kernel_rfl) (fun _ _ _ h => h) (Or.inl ⟨by kernel_rfl, ?_⟩) hHeld ?_
    · intro w' hSw
      first | (go_simp; done) | (go_simp; with_reducible rfl) | (go_simp; rw [IntKind.wrap_i64]; omega) | (go_simp; omega)
    simp only [Act.put, List.setIfInBounds_toArray, List.set_cons_zero, List.set_cons_succ]
    refine wpAnyH_take (i := 5) (v := .bool true) rfl (by kernel_rfl) (by kernel_rfl) (by kernel_rfl) (fun _ _ _ h => h) (Or.inl ⟨by kernel_rfl, ?_⟩) hHeld ?_
    · intro w' hSw
      first | (go_simp; done) | (go_simp; with_reducible rfl) | (go_simp; rw [IntKind.wrap_i64]; omega) | (go_simp; omega)
    simp only [Act.put, List.setIfInBounds_toArray, List.set_cons_zero, List.set_cons_succ]
    refine wpAnyH_take (i := 6) (v := .bool true) rfl (by kernel_rfl) (by kernel_rfl) (by kernel_rfl) (fun _ _ _ h => h) (Or.inl ⟨by kernel_rfl, ?_⟩) hHeld ?_
    · intro w' hSw
      first | (go_simp; done) | (go_simp; with_reducible rfl) | (go_simp; rw [IntKind.wrap_i64]; omega) | (go_simp; omega)
    simp only [Act.put, List.setIfInBounds_toArray, List.set_cons_zero, List.set_cons_succ]
    refine wpAnyH_take (i := 7) (v := .slice t m cap) rfl (by kernel_rfl) (by kernel_rfl) (by kernel_rfl) (fun _ _ _ h => h) (Or.inl ⟨by kernel_rfl, ?_⟩) hHeld ?_
    · intro w' hSw
      first | (go_simp; done) | (go_simp; with_reducible rfl) | (go_simp; rw [IntKind.wrap_i64]; omega) | (go_simp; omega)
    simp only [Act.put, List.setIfInBounds_toArray, List.set_cons_zero, List.set_cons_succ]
    refine wpAnyH_take (i := 9) (v := .pointer (some ⟨ga, 0, none⟩)) rfl (by kernel_rfl) (by kernel_rfl) (by kernel_rfl) (fun _ _ _ h => h) (Or.inl ⟨by kernel_rfl, ?_⟩) hHeld ?_
    · intro w' hSw
      first | (go_simp; done) | (go_simp; with_reducible rfl) | (go_simp; rw [IntKind.wrap_i64]; omega) | (go_simp; omega)
    simp only [Act.put, List.setIfInBounds_toArray, List.set_cons_zero, List.set_cons_succ]
    refine wpAnyH_take (i := 10) (v := .int .i64 A) rfl (by kernel_rfl) (by kernel_rfl) (by kernel_rfl) (fun _ _ _ h => h) (Or.inl ⟨by kernel_rfl, ?_⟩) hHeld ?_
    · intro w' hSw
      first | (go_simp; done) | (go_simp; with_reducible rfl) | (go_simp; rw [IntKind.wrap_i64]; omega) | (go_simp; omega)
    simp only [Act.put, List.setIfInBounds_toArray, List.set_cons_zero, List.set_cons_succ]
    refine wpAnyH_ready (rs := [8]) (by kernel_rfl) (by simp) ?_
    refine (AllReadyH.cons rfl (fun KK hK => ?_) AllReadyH.nil)
    go_simp
    go_wp2_with (first | (go_at_call 14; refine (HEN.out _ (HRa.out.below HB9.out)).mono ?_; rintro e v0_1 ⟨sE, cE, rfl, HE, b9⟩; replace HB9 : Hid (Below wd.heap.size wd v0_1) := HB9.out.trans (b9.mono HB9.out.size); clear b9))
    refine hK.out _ _ (((HB9.out.cell (p := ⟨ga, 0, none⟩) zg).trans C0.out)) (fun hHeld => ?_)
    clear hK KK
    refine wpAnyH_ready (rs := [11]) (by kernel_rfl) (by simp) ?_
    refine (AllReadyH.cons rfl (fun KK hK => ?_) AllReadyH.nil)
    go_simp
    go_wp2_with (first | (go_at_call 13; refine (has_any sE (endV m V 0) cE A _ (by have := HL.out; omega) HE).mono ?_; rintro e v0_2 ⟨rfl, rfl⟩; rw [show decide (A ∈ endV m V 0) = true from decide_eq_true HA.out]; rename World => v0_2))
    refine hK.out _ _ (((HB9.out.cell (p := ⟨ga, 0, none⟩) zg).trans C0.out)) (fun hHeld => ?_)
    clear hK KK
    refine wpAnyH_take (i := 12) (v := .bool true) rfl (by kernel_rfl) (by kernel_rfl) (by kernel_rfl) (fun _ _ _ h => h) (Or.inl ⟨by kernel_rfl, ?_⟩) hHeld ?_
    · intro w' hSw
      first | (go_simp; done) | (go_simp; with_reducible rfl) | (go_simp; rw [IntKind.wrap_i64]; omega) | (go_simp; omega)
    simp only [Act.put, List.setIfInBounds_toArray, List.set_cons_zero, List.set_cons_succ]
    refine wpAnyH_ready (rs := [13]) (by kernel_rfl) (by simp) ?_
    refine AllReadyH.cons rfl (fun KK hK => ?_) AllReadyH.nil
    go_simp
    refine hK.out _ _ hHeld (fun hHeld => ?_)
    clear hK KK
    refine wpAnyH_done (by kernel_rfl) ?_ _
    clear hHeld
    have BF : Below w.heap.size w v0_2 := HBa.out.trans (HB9.out.mono HBa.out.size)
    clear HB9
    go_wp2
    go_ret
    first | exact ⟨rfl, BF⟩ | exact ⟨by simp, BF⟩
theorem fnSeqEnds_walk (w : World) (s : Option Addr) (n c : Nat) (hn : n ≤ 9223372036854775807) (R : Bytes w s n) :
    Calls Try.prog 3 #[.slice s n c] w fun e w' => e = .returned (.bool true) ∧ Below w.heap.size w w' := by
  by_cases h : n ≤ 1048576
  · exact seqEnds_near w s n c (by omega) (R.code h)
  · exact seqEnds_far w s n c (by omega)

set_option maxRecDepth 100000 in
theorem fnSeqEnds_lifted (os : Os) (started : os.Started) (H : Type) (enc : TypeId × Value → H) :
    ReturnsInHanded {} Try.checked os 3 .any (Rows.fnSeqEndsSpec.pre6 enc Try.prog Try.f3 Rows.fnSeqEndsRow.domain false) (Rows.fnSeqEndsSpec.post enc Try.prog Try.f3 false true false false) := by
  refine returnsInHanded_of_change (C := Try.checked) own started (by kernel_rfl) Try.func3
    (ChangeSpec.witness6 (enc := enc) (C := Try.checked) false ⟨#[], #[.slice none 0 0], []⟩ 8 (by kernel_rfl) (by kernel_rfl) (by kernel_rfl) (by kernel_rfl)) ?_
  intro W base args ds gs before hval0 hW hcnd _
  have hval : ∀ (j : Nat) t v, Try.f3.params[j]? = some t → args[j]? = some v → Value.okWide Try.prog W .any base t v := hval0
  have hW' := hW
  obtain ⟨p, q, hA0, hV, rfl, hfz, hnd⟩ := hW
  have hA : DataW.TrodAll enc Try.prog W 0 (fun _ => true) true Try.f3.params.toList args.toList ds p := hA0
  rw [Try.params3] at hA hval
  obtain ⟨v0, vs0, d0, ds0, p0, q0, hargs, rfl, rfl, h0, r0⟩ := trodAll_cons hA
  obtain ⟨rfl, rfl, rfl⟩ := trodAll_nil r0
  obtain rfl : args = #[v0] := by cases args; simp_all
  obtain ⟨rfl, rfl⟩ := trodVars_none hV
  have k0 := h0
  have lt0 : ∀ x ∈ p0, x.block < W.heap.size := by obtain ⟨m, hm⟩ := k0; exact DataW.trod_lt m _ _ _ hm
  obtain ⟨s0, n0, c0, rfl, m0, R0⟩ := open_code Try.underlying22 Try.underlying5 (by kernel_rfl) (hval 0 22 v0 rfl rfl) h0
  clear hA0 hval0
  refine (fnSeqEnds_walk W s0 n0 c0 m0 R0).mono fun e W' ⟨he, bel⟩ => ?_
  subst he
  exact ⟨_, rfl, _, _, _, [], _, [], hW', trodAll_mk1 (shut_bool Try.underlying4 _), (trodAll_cons_mk (Below.trod laidOut (by kernel_rfl) (of_decide_eq_true (by kernel_rfl)) k0 bel lt0) trodAll_mk0), rfl, bel.frame _, fun h => by cases h⟩

theorem fnSeqEnds_holds : Rows.FnSeqEndsSaid :=
  OpenClaim.holds_of_wide 3 Try.f3 rfl rfl rfl rfl rfl rfl rfl ⟨rfl, rfl, rfl, rfl, rfl⟩ rfl rfl rfl rfl rfl (by kernel_rfl) Try.func3 (by kernel_rfl)
    (of_decide_eq_true (by kernel_rfl)) (by unfold Func.isWrapper; first | (rw [if_pos (by decide +kernel)]; kernel_rfl) | (rw [if_neg (by decide +kernel)]; exact ⟨rfl, rfl⟩))
    (fun os started H enc _ => fnSeqEnds_lifted os started H enc)
#print axioms fnSeqEnds_holds
end Go.Proofs.Ytlbhdlieeilbdaa
