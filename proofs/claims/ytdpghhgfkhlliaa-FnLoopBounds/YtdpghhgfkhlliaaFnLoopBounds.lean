/-
What is proved: along every run that is drawn from a code each Out is within Low and High, and the hold behind it belongs to the loop; no condition.
-/
import Derived.Test.YtdpghhgfkhlliaaLbD
import Derived.Test.YtdpghhgfkhlliaaLrS
import Derived.Test.YtdpghhgfkhlliaaLrI
import Derived.Test.YtdpghhgfkhlliaaOpen8
import Derived.BigQuiet
import Derived.Deep.QuietTactic
namespace Go.Proofs.Ytdpghhgfkhlliaa
set_option maxRecDepth 40000
open Go.ChangeShapes Go.WideShapes Go.ChangeAt Go.RowKit
set_option linter.unusedVariables false
set_option linter.unusedSimpArgs false

theorem inB_of {lo hi n : Int} (h1 : lo ≤ n) (h2 : n ≤ hi) : inB lo hi n = true := decide_eq_true ⟨h1, h2⟩
theorem step_in {P I D S L H B : Int} {x : H4} {want seen : Int} (h : okH P I D S L H B x want seen = true) : (L ≤ (nextH P I D S L H B x want seen).2.2.2 ∧ (nextH P I D S L H B x want seen).2.2.2 ≤ H) ∧ okB P I D S L H B (nextH P I D S L H B x want seen).1 (nextH P I D S L H B x want seen).2.1 (nextH P I D S L H B x want seen).2.2.1 (nextH P I D S L H B x want seen).2.2.2 = true := by
  have h' := h
  unfold okH stepB at h'
  simp only [Bool.and_eq_true] at h'
  obtain ⟨ok, kw, ks⟩ := h'
  obtain ⟨kw1, kw2⟩ := inB_yes kw
  obtain ⟨ks1, ks2⟩ := inB_yes ks
  obtain ⟨_, _, _, _, _, ⟨L1, L2⟩, H2⟩ := ok_loop ok
  have ho : okH P I D S L H B x want seen = true := h
  have e3 : (nextH P I D S L H B x want seen).2.2.2 = outV L H (freeV P I D S x.1 x.2.1 x.2.2.1 (want - seen)) := if_pos ho
  have e2 : (nextH P I D S L H B x want seen).2.2.1 = want - seen := if_pos ho
  have e1 : (nextH P I D S L H B x want seen).2.1 = putV (x.2.1 + (want - seen)) (backV B (outV L H (freeV P I D S x.1 x.2.1 x.2.2.1 (want - seen))) (freeV P I D S x.1 x.2.1 x.2.2.1 (want - seen))) := if_pos ho
  have e0 : (nextH P I D S L H B x want seen).1 = true := ho
  rw [e0, e1, e2, e3]
  have a : L ≤ outV L H (freeV P I D S x.1 x.2.1 x.2.2.1 (want - seen)) ∧ outV L H (freeV P I D S x.1 x.2.1 x.2.2.1 (want - seen)) ≤ H := by unfold outV; omega
  refine ⟨a, ?_⟩
  unfold okB at ok ⊢
  rw [Bool.and_eq_true] at ok
  rw [ok.1, Bool.true_and]
  unfold holdB
  rw [if_pos rfl, inB_of (by unfold putV; omega) (by unfold putV; omega), inB_of (by omega) (by omega), inB_of a.1 a.2]
  rfl
theorem run_in {P I D S L H B : Int} {x : H4} {F G : Nat → Int} (h0 : okB P I D S L H B x.1 x.2.1 x.2.2.1 x.2.2.2 = true) : ∀ {k : Nat}, (∀ j, j < k → runOk P I D S L H B x F G j = true) → okB P I D S L H B (runH P I D S L H B x F G k).1 (runH P I D S L H B x F G k).2.1 (runH P I D S L H B x F G k).2.2.1 (runH P I D S L H B x F G k).2.2.2 = true
  | 0, _ => h0
  | k + 1, h => (step_in (h k (by omega))).2
set_option maxHeartbeats 400000 in
theorem fnLoopBounds_far (w : World) (s : Option Addr) (n c : Nat) (h : (1048576 : Int) < n) :
    Calls Try.prog 6 #[.slice s n c] w fun e w' => e = .returned (.bool true) ∧ Below w.heap.size w w' := by
  go_enter Try.func6, Try.ntmps6
  go_wp2_with fail
  refine (big_yes _ _ _ _ h).mono ?_
  rintro e w1 ⟨rfl, rfl⟩
  go_wp2
  go_ret
  exact ⟨rfl, Below.refl _ _⟩
set_option maxRecDepth 20000 in
set_option maxHeartbeats 8000000 in
theorem fnLoopBounds_near (w : World) (s : Option Addr) (n c : Nat) (hn : (n : Int) ≤ 1048576) (HC : Hid (Code8 w s n)) :
    Calls Try.prog 6 #[.slice s n c] w fun e w' => e = .returned (.bool true) ∧ Below w.heap.size w w' := by
  go_enter Try.func6, Try.ntmps6
  go_wp2_with fail
  refine (big_no _ _ _ _ hn).mono ?_
  rintro e w0 ⟨rfl, e0⟩
  subst w0
  go_wp2_with fail
  refine (drawLoopRun_any HC).mono ?_
  rintro e w1 ⟨P, I, D, S, L, H, B, on, u, v, o, m1, s1, c1, V1, m2, s2, c2, V2, rfl, le1, le2, R1, R2, b1⟩
  have HB1 : Hid (Below w.heap.size w w1) := b1
  have HR1 : Hid (RowI w1 s1 m1 V1) := R1
  have HR2 : Hid (RowI w1 s2 m2 V2) := R2
  obtain ⟨mm, ⟨y0, y1, y2, y3⟩, bb, hv, hmm⟩ := runL_some P I D S L H B (on, u, v, o) m1 m2 V1 V2
  obtain ⟨U, hU⟩ : ∃ U, U = outK P I D S L H B (on, u, v, o) V1 V2 := ⟨_, rfl⟩
  have H1 : Hid (∀ w, RowI w s1 m1 V1 → RowI w s2 m2 V2 → Calls Try.prog 14 #[.agg #[.int .i64 P, .int .i64 I, .int .i64 D, .int .i64 S, .int .i64 L, .int .i64 H, .int .i64 B], .agg #[.bool on, .int .i64 u, .int .i64 v, .int .i64 o], .slice s1 m1 c1, .slice s2 m2 c2] w fun e w' => ∃ s' c', e = .returned (.tuple #[.slice s' mm c', .agg #[.bool y0, .int .i64 y1, .int .i64 y2, .int .i64 y3], .bool bb]) ∧ OwnI w.heap.size w' s' mm U ∧ Below w.heap.size w w') := fun w q q' => (specRun_any P I D S L H B on u v o s1 m1 c1 m2 V1 s2 c2 V2 w (by omega) (by omega) q q').mono fun e w' ⟨m', y', b', s', c', k1, k2, k3, k4⟩ => by obtain ⟨rfl, rfl, rfl⟩ := k1.one hv; rw [hU]; exact ⟨s', c', k2, k3, k4⟩
  have H2 : Hid (∀ w, RowI w s1 m1 V1 → RowI w s2 m2 V2 → Calls Try.prog 16 #[.agg #[.int .i64 P, .int .i64 I, .int .i64 D, .int .i64 S, .int .i64 L, .int .i64 H, .int .i64 B], .agg #[.bool on, .int .i64 u, .int .i64 v, .int .i64 o], .slice s1 m1 c1, .slice s2 m2 c2] w fun e w' => ∃ s' c', e = .returned (.tuple #[.slice s' mm c', .agg #[.bool y0, .int .i64 y1, .int .i64 y2, .int .i64 y3], .bool bb]) ∧ OwnI w.heap.size w' s' mm U ∧ Below w.heap.size w w') := fun w q q' => (implRun_any P I D S L H B on u v o s1 m1 c1 m2 V1 s2 c2 V2 w (by omega) (by omega) q q').mono fun e w' ⟨m', y', b', s', c', k1, k2, k3, k4⟩ => by obtain ⟨rfl, rfl, rfl⟩ := k1.one hv; rw [hU]; exact ⟨s', c', k2, k3, k4⟩
  have HV : Hid (bb = true → mm = m1 ∧ (∀ j, j < mm → L ≤ U j ∧ U j ≤ H) ∧ okB P I D S L H B y0 y1 y2 y3 = true) := fun hb => by
    rcases hv with ⟨q1, q2, _, q4, q5⟩ | ⟨_, _, q3, _⟩
    · subst q1
      have a := run_in (F := V1) (G := V2) q4.1 q5
      rw [← q2] at a
      exact ⟨rfl, fun j hj => by rw [hU]; exact (step_in (q5 j hj)).1, a⟩
    · rw [q3] at hb; cases hb
  clear hv R1 R2 b1 HC hU
  go_upto_region 4 with fail
  obtain ⟨we, hwe⟩ : ∃ we, we = (w1.alloc (.cells #[.int .i64 P, .int .i64 I, .int .i64 D, .int .i64 S, .int .i64 L, .int .i64 H, .int .i64 B] 27)).alloc (.cells #[.bool on, .int .i64 u, .int .i64 v, .int .i64 o] 29) := ⟨_, rfl⟩
  rw [← hwe]
  have be : Below w1.heap.size w1 we := by rw [hwe]; exact (by repeat (first | with_reducible exact Below.refl _ _ | with_reducible refine Below.setCell ?_ (by first | omega | (simp; done) | (simp; omega)) _ | with_reducible refine bDrewN ?_ _ | with_reducible refine Below.drew ?_ | with_reducible refine Below.alloc ?_ (by first | omega | (simp; done) | (simp; omega)) _))
  have LE : Hid (LoopAt we w1.heap.size P I D S L H B) := by rw [hwe]; refine ⟨by simp; omega, ?_, ?_, ?_, ?_, ?_, ?_, ?_⟩ <;> simp [go_sem]
  have GE : Hid (HoldAt we (w1.heap.size + 1) on u v o) := by rw [hwe]; refine ⟨by simp, fun o => ?_, ?_, ?_, ?_, ?_⟩ <;> simp [go_sem]
  have BE : Hid (Below w.heap.size w we) := HB1.out.trans (be.mono HB1.out.size)
  have X1 : Hid (RowI we s1 m1 V1) := HR1.out.below be
  have X2 : Hid (RowI we s2 m2 V2) := HR2.out.below be
  clear hwe be HB1 HR1 HR2
  obtain ⟨z7, a0, a1, a2, a3, a4, a5, a6⟩ := LE.out
  obtain ⟨z8, -, d0, d1, d2, d3⟩ := GE.out
  go_wp2_with fail
  refine (H1.out _ X1.out X2.out).mono ?_
  rintro e w2 ⟨sW, cW, rfl, OW, h2⟩
  clear z7 a0 a1 a2 a3 a4 a5 a6 z8 d0 d1 d2 d3 OW
  go_upto_region 5 with fail
  obtain ⟨wf, hwf⟩ : ∃ wf, wf = w2.alloc (.cells #[.bool y0, .int .i64 y1, .int .i64 y2, .int .i64 y3] 29) := ⟨_, rfl⟩
  rw [← hwf]
  have bf : Below we.heap.size we wf := by rw [hwf]; exact h2.alloc h2.size _
  have LF2 : Hid (LoopAt wf w1.heap.size P I D S L H B) := LE.out.below bf
  have GF : Hid (HoldAt wf (w1.heap.size + 1) on u v o) := GE.out.below bf
  have BF : Hid (Below w.heap.size w wf) := BE.out.trans (bf.mono BE.out.size)
  have Y1 : Hid (RowI wf s1 m1 V1) := X1.out.below bf
  have Y2 : Hid (RowI wf s2 m2 V2) := X2.out.below bf
  clear hwf bf h2 LE GE BE X1 X2
  obtain ⟨z7, a0, a1, a2, a3, a4, a5, a6⟩ := LF2.out
  obtain ⟨z8, -, d0, d1, d2, d3⟩ := GF.out
  go_wp2_with fail
  refine (H2.out _ Y1.out Y2.out).mono ?_
  rintro e w3 ⟨sG, cG, rfl, OG, h3⟩
  clear z7 a0 a1 a2 a3 a4 a5 a6 z8 d0 d1 d2 d3
  go_upto_region 6 with fail
  obtain ⟨wg, hwg⟩ : ∃ wg, wg = w3.alloc (.cells #[.bool y0, .int .i64 y1, .int .i64 y2, .int .i64 y3] 29) := ⟨_, rfl⟩
  rw [← hwg]
  have bg : Below wf.heap.size wf wg := by rw [hwg]; exact h3.alloc h3.size _
  have LG : Hid (LoopAt wg w1.heap.size P I D S L H B) := LF2.out.below bg
  have AG : Hid (HoldAt wg w3.heap.size y0 y1 y2 y3) := by rw [hwg]; refine ⟨by simp, fun o => ?_, ?_, ?_, ?_, ?_⟩ <;> simp [go_sem]
  have BG : Hid (Below w.heap.size w wg) := BF.out.trans (bg.mono BF.out.size)
  have RG : Hid (RowI wg sG mm U) := by rw [hwg]; exact OG.row.below (below0 _ _)
  clear hwg bg h3 OG LF2 GF BF Y1 Y2 H1 H2
  have BW := BG.out
  cases bb
  case false =>
    go_wp2
    go_ret
    exact ⟨rfl, BW⟩
  case true =>
    obtain ⟨hm1, hin, hok⟩ := HV.out rfl
    have HIN : Hid (∀ j, j < mm → L ≤ U j ∧ U j ≤ H) := hin
    have HOK : Hid (okB P I D S L H B y0 y1 y2 y3 = true) := hok
    clear hin hok HV
    subst hm1
    go_wp2_with fail
    go_loopw [13] (fun i wr => ∃ k : Nat, k ≤ mm ∧ i = .int .i64 k ∧ Below wg.heap.size wg wr) (fun i _ => mm - (intOf i).toNat)
    case atStart => exact ⟨0, Nat.zero_le _, rfl, Below.refl _ _⟩
    case round =>
      obtain ⟨k, hk, rfl, hB⟩ := hrel
      have HB : Hid (Below wg.heap.size wg wr) := hB
      obtain ⟨z7, a0, a1, a2, a3, a4, a5, a6⟩ := LG.out.below hB
      obtain ⟨z8, -, d0, d1, d2, d3⟩ := AG.out.below hB
      by_cases h1 : k < mm
      · obtain ⟨g, q, rfl, hg, e0⟩ := RG.out.below hB k h1
        obtain ⟨i1, i2⟩ := HIN.out k h1
        have f1 : decide (U k < L) = false := by simp; omega
        have f2 : decide (H < U k) = false := by simp; omega
        have k1 : (k : Int) < (mm : Int) := by omega
        clear hB d0 d1 d2 d3 z8
        go_wp2_with fail
        go_quiet (fail)
        go_wp2
        go_round
        case rel =>
          have HBq := HB.out
          exact ⟨k + 1, by omega, by go_num, (by repeat (first | with_reducible exact Below.refl _ _ | with_reducible exact HBq | with_reducible refine Below.setCell ?_ (by first | omega | (simp; done) | (simp; omega)) _ | with_reducible refine bDrewN ?_ _ | with_reducible refine Below.drew ?_ | with_reducible refine Below.alloc ?_ (by first | omega | (simp; done) | (simp; omega)) _))⟩
        case measure => simp [intOf]; omega
      · obtain rfl : k = mm := by omega
        clear hB
        go_wp2_with fail
        refine (implOk_any P I D S L H B y0 y1 y2 y3 _).mono ?_
        rintro e w5 ⟨rfl, h5⟩
        rw [HOK.out]
        have B5 : Below w.heap.size w w5 := BG.out.trans ((HB.out.trans (h5.mono HB.out.size)).mono BG.out.size)
        go_wp2
        go_ret
        exact ⟨rfl, B5⟩

theorem fnLoopBounds_walk (w : World) (s : Option Addr) (n c : Nat) (hn : n ≤ 9223372036854775807) (R : Bytes w s n) :
    Calls Try.prog 6 #[.slice s n c] w fun e w' => e = .returned (.bool true) ∧ Below w.heap.size w w' := by
  by_cases h : n ≤ 1048576
  · exact fnLoopBounds_near w s n c (by omega) (R.code h)
  · exact fnLoopBounds_far w s n c (by omega)

set_option maxRecDepth 100000 in
theorem fnLoopBounds_lifted (os : Os) (started : os.Started) (H : Type) (enc : TypeId × Value → H) :
    ReturnsInHanded {} Try.checked os 6 .any (Rows.fnLoopBoundsSpec.pre6 enc Try.prog Try.f6 Rows.fnLoopBoundsRow.domain false) (Rows.fnLoopBoundsSpec.post enc Try.prog Try.f6 false true false false) := by
  refine returnsInHanded_of_change (C := Try.checked) own started (by kernel_rfl) Try.func6
    (ChangeSpec.witness6 (enc := enc) (C := Try.checked) false ⟨#[], #[.slice none 0 0], []⟩ 8 (by kernel_rfl) (by kernel_rfl) (by kernel_rfl) (by kernel_rfl)) ?_
  intro W base args ds gs before hval0 hW hcnd _
  have hval : ∀ (j : Nat) t v, Try.f6.params[j]? = some t → args[j]? = some v → Value.okWide Try.prog W .any base t v := hval0
  have hW' := hW
  obtain ⟨p, q, hA0, hV, rfl, hfz, hnd⟩ := hW
  have hA : DataW.TrodAll enc Try.prog W 0 (fun _ => true) true Try.f6.params.toList args.toList ds p := hA0
  rw [Try.params6] at hA hval
  obtain ⟨v0, vs0, d0, ds0, p0, q0, hargs, rfl, rfl, h0, r0⟩ := trodAll_cons hA
  obtain ⟨rfl, rfl, rfl⟩ := trodAll_nil r0
  obtain rfl : args = #[v0] := by cases args; simp_all
  obtain ⟨rfl, rfl⟩ := trodVars_none hV
  have k0 := h0
  have lt0 : ∀ x ∈ p0, x.block < W.heap.size := by obtain ⟨m, hm⟩ := k0; exact DataW.trod_lt m _ _ _ hm
  obtain ⟨s0, n0, c0, rfl, m0, R0⟩ := open_code Try.underlying43 Try.underlying5 (by kernel_rfl) (hval 0 43 v0 rfl rfl) h0
  clear hA0 hval0
  refine (fnLoopBounds_walk W s0 n0 c0 m0 R0).mono fun e W' ⟨he, bel⟩ => ?_
  subst he
  exact ⟨_, rfl, _, _, _, [], _, [], hW', trodAll_mk1 (shut_bool Try.underlying4 _), (trodAll_cons_mk (Below.trod laidOut (by kernel_rfl) (of_decide_eq_true (by kernel_rfl)) k0 bel lt0) trodAll_mk0), rfl, bel.frame _, fun h => by cases h⟩

theorem fnLoopBounds_holds : Rows.FnLoopBoundsSaid :=
  OpenClaim.holds_of_wide 6 Try.f6 rfl rfl rfl rfl rfl rfl rfl ⟨rfl, rfl, rfl, rfl, rfl⟩ rfl rfl rfl rfl rfl (by kernel_rfl) Try.func6 (by kernel_rfl)
    (of_decide_eq_true (by kernel_rfl)) (by unfold Func.isWrapper; first | (rw [if_pos (by decide +kernel)]; kernel_rfl) | (rw [if_neg (by decide +kernel)]; exact ⟨rfl, rfl⟩))
    (fun os started H enc _ => fnLoopBounds_lifted os started H enc)
#print axioms fnLoopBounds_holds
end Go.Proofs.Ytdpghhgfkhlliaa
