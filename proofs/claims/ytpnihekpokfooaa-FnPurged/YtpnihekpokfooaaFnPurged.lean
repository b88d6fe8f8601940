/-
What is proved: a burner that begins off does, in drawn cycles, nothing that none may; at every code, no condition.
-/
import Derived.Test.YtpnihekpokfooaaPgG
import Derived.Test.YtpnihekpokfooaaPg
import Derived.Test.YtpnihekpokfooaaBrS
import Derived.Test.YtpnihekpokfooaaBrI
import Derived.Test.YtpnihekpokfooaaLwI
import Derived.Test.YtpnihekpokfooaaOpen8
import Derived.BigQuiet
import Derived.Deep.QuietTactic
import Derived.Deep.RegionHeldLaw
import Derived.Deep.RegionLaw
import Derived.BigRegion
import Derived.Deep.RegionHeld3
import Derived.Deep.DeepCutAuto
namespace Go.Proofs.Ytpnihekpokfooaa
set_option maxRecDepth 40000
open Go.ChangeShapes Go.WideShapes Go.ChangeAt Go.RowKit
set_option linter.unusedVariables false
set_option linter.unusedSimpArgs false

theorem info_sgt : (Try.prog.info? 63).map (fun i => (i.zero, i.size, i.bytes)) = some (some (.agg #[.bool false, .bool false, .bool false, .bool false]), 4, 4) := by kernel_rfl
theorem newsFour (W : World) (a b c d : Value) (t : TypeId) : ∀ j u, [a, b, c, d][j]? = some u → (W.alloc (.cells #[a, b, c, d] t)).cell? ((⟨W.heap.size, 0, none⟩ : Addr).add j) = some u := World.news_of_block (cs := #[a, b, c, d]) (heap_alloc_new W _)
theorem step_sgt {ops : Array Oper} {o : Oper} {a : Act} {K : Act → World → Prop} {Q : Exit → Act → World → Prop} {E : Prop} {W : World} {t : TypeId} {x0 x1 x2 x3 : Bool} (base : Nat) (v : Value) (k : Nat) (xs : List Value) (s z : Operand) (hgd : o.guard = none)
    (ho : o.op = .call { callee := .builtin .append, args := #[s, z], argTypes := #[54, 54] }) (hs : a.eval s = v) (hx : a.eval z = .slice (some ⟨W.heap.size, 0, none⟩) 1 1) (hown : W.ownsRow base 63 4 v k xs) (hk : k ≤ 100000) (hb : base ≤ W.heap.size)
    (h : ∀ g cap w', w'.ownsRow base 63 4 (.slice (some ⟨g, 0, none⟩) (k + 1) cap) (k + 1) (xs ++ [.bool x0, .bool x1, .bool x2, .bool x3]) → W.grownBy w' v.ownBlock → g < w'.heap.size → K (a.put o.dst (.slice (some ⟨g, 0, none⟩) (k + 1) cap)) w') :
    if Region.wanted o (yielded ops a.tmps) = true then Oper.wp Try.prog o a (W.alloc (.cells #[.bool x0, .bool x1, .bool x2, .bool x3] t)) K Q else E := by
  obtain ⟨i0, hi, hz0, hz1, hz2⟩ := info_parts info_sgt
  refine step_append_lies _ hgd s z 54 ho base 63 i0 (.agg #[.bool false, .bool false, .bool false, .bool false]) 4 4 Try.underlying54 hi hz0 hz1 hz2 rfl (by decide) v k xs hs (hown.alloc _) ⟨W.heap.size, 0, none⟩ 1 1 [.bool x0, .bool x1, .bool x2, .bool x3] hx rfl (newsFour _ _ _ _ _ _) ?_ (by decide) (by unfold maxLen; omega) (by omega) (by simp; omega) _ rfl ?_
  · intro u hu
    simp at hu
    rcases hu with rfl | rfl | rfl | rfl <;> rfl
  · intro g cap w' h1 h2 _ h3
    exact h g cap w' h1 (grown_new h2) h3
theorem grown_drew {wr w3 : World} {base : Nat} {e : TypeId} {size n : Nat} {v : Value} {xs : List Value} (ho : wr.ownsRow base e size v n xs) (hg : wr.drew.grownBy w3 v.ownBlock) (hb : base ≤ wr.heap.size) : Below base wr w3 := Below.trans (Below.mono (B := wr.heap.size) (Below.refl _ wr).drew hb) (grown_below hg hb (own_block ho))
theorem valB_four (U : Nat → Bool) (k : Nat) : valB U ((k + 1) * 4) = valB U (k * 4) ++ [.bool (U (k * 4)), .bool (U (k * 4 + 1)), .bool (U (k * 4 + 2)), .bool (U (k * 4 + 3))] := by
  rw [show (k + 1) * 4 = k * 4 + 1 + 1 + 1 + 1 by omega, valB_succ, valB_succ, valB_succ, valB_succ]
  simp
theorem own_OwnB4 {w : World} {base n : Nat} {v : Value} {U : Nat → Bool} (h : w.ownsRow base 63 4 v n (valB U (n * 4))) : ∃ s cap, v = .slice s n cap ∧ n ≤ cap ∧ OwnB base w s (n * 4) U := by
  rcases h.2 with ⟨rfl, rfl⟩ | ⟨g, cap, cur, rfl, hb, hg, hc, _, _, _⟩
  · exact ⟨none, 0, rfl, Nat.zero_le _, fun j hj => by omega⟩
  · refine ⟨some ⟨g, 0, none⟩, cap, rfl, hc, fun j hj => ⟨g, rfl, hb, (Array.getElem?_eq_some_iff.1 hg).1, ?_, h.frozenAt j⟩⟩
    rw [h.cellAt j (by omega)]
    simp [valB, hj]
theorem neq_out (a b c : Bool) (w : World) : (binOp .neq 31 (.agg #[.bool a, .bool b, .bool c]) (.agg #[.bool a, .bool b, .bool c])).run Try.prog w = .ok (.bool false) w := by
  cases a <;> cases b <;> cases c <;> kernel_rfl
theorem rg_not {m : Nat} (h : rgB (0, 0, 0) m = true) : m ≤ 1000 ∧ rnN (0, 0, 0) m = m := by
  have := h
  unfold rgB at this
  simp only [Bool.and_eq_true, decide_eq_true_iff] at this
  exact ⟨this.2, by simp [rnN, h]⟩
theorem rn_ok (V : Nat → Bool) (m : Nat) : okB (rnB (0, 0, 0) V m).1 (rnB (0, 0, 0) V m).2.1 (rnB (0, 0, 0) V m).2.2 = true := by
  unfold rnB
  split
  · exact itR_ok (by decide) m
  · decide
set_option maxHeartbeats 400000 in
theorem fnPur_far (w : World) (s : Option Addr) (n c : Nat) (h : (1048576 : Int) < n) :
    Calls Try.prog 8 #[.slice s n c] w fun e w' => e = .returned (.bool true) ∧ Below w.heap.size w w' := by
  go_enter Try.func8, Try.ntmps8
  go_wp2_with fail
  refine (big_yes _ _ _ _ h).mono ?_
  rintro e w1 ⟨rfl, rfl⟩
  go_wp2
  go_ret
  exact ⟨rfl, Below.refl _ _⟩
set_option maxRecDepth 20000 in
set_option maxHeartbeats 16000000 in
theorem fnPur_near (w : World) (sc : Option Addr) (nc cc : Nat) (h : (nc : Int) ≤ 1048576) (HC : Hid (Code8 w sc nc)) :
    Calls Try.prog 8 #[.slice sc nc cc] w fun e w' => e = .returned (.bool true) ∧ Below w.heap.size w w' := by
  go_enter Try.func8, Try.ntmps8
  go_wp2_with fail
  refine (big_no _ _ _ _ h).mono ?_
  rintro e w0 ⟨rfl, rfl⟩
  go_wp2_with fail
  refine (drawRun_any HC.out).mono ?_
  rintro e w1 ⟨a, b, d, m, t, ct, V, rfl, m11, R1, B1⟩
  have HR1 : Hid (RowB w1 t (m * 6) V) := R1
  have HB1 : Hid (Below w0.heap.size w0 w1) := B1
  clear R1 B1
  have hm : (m : Int) ≤ 1048576 := by omega
  obtain ⟨U, hU⟩ : ∃ U, outU (0, 0, 0) V = U := ⟨_, rfl⟩
  obtain ⟨N, hN⟩ : ∃ N, rnN (0, 0, 0) m = N := ⟨_, rfl⟩
  obtain ⟨⟨y0, y1, y2⟩, hy⟩ : ∃ y, rnB (0, 0, 0) V m = y := ⟨_, rfl⟩
  obtain ⟨ok, hok⟩ : ∃ ok, rgB (0, 0, 0) m = ok := ⟨_, rfl⟩
  have HG : Hid (ok = true → m ≤ 1000 ∧ N = m) := fun e => by
    have := rg_not (hok.trans e)
    rw [hN] at this; exact this
  have hyo : okB y0 y1 y2 = true := by have := rn_ok V m; rw [hy] at this; exact this
  have HSg : Hid (∀ k, sgt V (k * 4) = V (k * 6) ∧ sgt V (k * 4 + 1) = V (k * 6 + 1) ∧ sgt V (k * 4 + 2) = V (k * 6 + 2) ∧ sgt V (k * 4 + 3) = U (k * 3 + 2)) := fun k => ⟨sgt0 V k, sgt1 V k, sgt2 V k, by rw [sgt3, ← hU, outU2]⟩
  have SX : Hid (∀ W, RowB W t (m * 6) V → Calls Try.prog 18 #[.agg #[.int .i64 0, .int .i64 0, .int .i64 0], .slice t m ct] W fun e w' => ∃ s' c', e = .returned (.tuple #[.slice s' N c', .agg #[.int .i64 y0, .int .i64 y1, .int .i64 y2], .bool ok]) ∧ OwnB W.heap.size w' s' (N * 3) U ∧ Below W.heap.size W w') := fun W hR => by
    have := specRun_any 0 0 0 t m ct V W hm hR
    unfold RunPost at this
    rw [hN, hy, hok, hU] at this; exact this
  have IX : Hid (∀ W, RowB W t (m * 6) V → Calls Try.prog 20 #[.agg #[.int .i64 0, .int .i64 0, .int .i64 0], .slice t m ct] W fun e w' => ∃ s' c', e = .returned (.tuple #[.slice s' N c', .agg #[.int .i64 y0, .int .i64 y1, .int .i64 y2], .bool ok]) ∧ OwnB W.heap.size w' s' (N * 3) U ∧ Below W.heap.size W w') := fun W hR => by
    have := implRun_any 0 0 0 t m ct V W hm hR
    unfold RunPost at this
    rw [hN, hy, hok, hU] at this; exact this
  clear hU hN hy hok
  go_wp2_with fail
  refine (SX.out _ (HR1.out.below (below0 _ _))).mono ?_
  rintro e w2 ⟨s1, c1, rfl, O1, b2⟩
  have HR2 : Hid (RowB w2 t (m * 6) V) := (HR1.out.below (below0 _ _)).below b2
  have HO2 : Hid (RowB w2 s1 (N * 3) U) := O1.row
  have HB2 : Hid (Below w0.heap.size w0 w2) := (HB1.out.trans ((below0 _ _).mono HB1.out.size)).trans (b2.mono (by have := HB1.out.size; simp; omega))
  clear O1 b2 HR1 HB1
  go_wp2_with fail
  refine (IX.out _ (HR2.out.below (below0 _ _))).mono ?_
  rintro e w3 ⟨s2, c2, rfl, O2, b3⟩
  have HR3 : Hid (RowB w3 t (m * 6) V) := (HR2.out.below (below0 _ _)).below b3
  have HO3 : Hid (RowB w3 s1 (N * 3) U) := (HO2.out.below (below0 _ _)).below b3
  have HP3 : Hid (RowB w3 s2 (N * 3) U) := O2.row
  have HB3 : Hid (Below w0.heap.size w0 w3) := (HB2.out.trans ((below0 _ _).mono HB2.out.size)).trans (b3.mono (by have := HB2.out.size; simp; omega))
  clear O2 b3 HR2 HO2 HB2 SX IX
  cases ok
  case false =>
    go_wp2
    go_ret
    exact ⟨rfl, HB3.out.trans ((below0 _ _).mono HB3.out.size)⟩
  case true =>
    obtain ⟨m1, hNm⟩ := HG.out rfl
    subst hNm
    go_wp2_with fail
    refine (implOk_any y0 y1 y2 _).mono ?_
    rintro e w4 ⟨rfl, h4⟩
    rw [hyo]
    have HR4 : Hid (RowB w4 t (N * 6) V) := (HR3.out.below (below0 _ _)).below h4
    have HO4 : Hid (RowB w4 s1 (N * 3) U) := (HO3.out.below (below0 _ _)).below h4
    have HP4 : Hid (RowB w4 s2 (N * 3) U) := (HP3.out.below (below0 _ _)).below h4
    have HB4 : Hid (Below w0.heap.size w0 w4) := (HB3.out.trans ((below0 _ _).mono HB3.out.size)).trans (h4.mono (by have := HB3.out.size; simp; omega))
    clear h4 HR3 HO3 HP3 HB3
    have O4 : Hid ((w4.alloc (.cells #[] 63)).ownsRow w4.heap.size 63 4 (.slice (some ⟨w4.heap.size, 0, none⟩) 0 0) 0 (valB (sgt V) (0 * 4))) := by
      show World.ownsRow _ _ _ _ _ _ _
      have := World.ownsRow_lit (base := w4.heap.size) (size := 4) (e := 63) w4 #[] 0 (Nat.le_refl _) (by simp [maxLen]) (by simp)
      simpa [valB] using this
    go_wp2_with fail
    go_loopw [11, 12] (fun v i wr => ∃ k : Nat, k ≤ N ∧ i = .int .i64 k ∧ Hid (wr.ownsRow w4.heap.size 63 4 v k (valB (sgt V) (k * 4))) ∧ Hid (Below w4.heap.size w4 wr)) (fun _ i _ => N - (intOf i).toNat)
    case atStart => exact ⟨0, Nat.zero_le _, rfl, O4.out, below0 _ _⟩
    case round =>
      obtain ⟨k, hk, rfl, HW, HB⟩ := hrel
      clear O4
      have sz : w4.heap.size ≤ wr.heap.size := HB.out.size
      by_cases h1 : k < N
      case pos =>
        have k1 : (k : Int) < (N : Int) := by omega
        obtain ⟨ag, ao, rfl, al0, ac0⟩ := HR4.out (k * 6) (by omega)
        obtain ⟨g', o', e', al1, ac1⟩ := HR4.out (k * 6 + 1) (by omega)
        cases e'
        obtain ⟨g', o', e', al2, ac2⟩ := HR4.out (k * 6 + 2) (by omega)
        cases e'
        have ad0 : wr.cell? ⟨ag, ao + k * 6, none⟩ = some (.bool (V (k * 6))) := (HB.out.cell (p := ⟨ag, ao + (k * 6), none⟩) al0).trans ac0
        have ad1 : wr.cell? ⟨ag, ao + k * 6 + 1, none⟩ = some (.bool (V (k * 6 + 1))) := (HB.out.cell (p := ⟨ag, ao + (k * 6 + 1), none⟩) al1).trans ac1
        have ad2 : wr.cell? ⟨ag, ao + k * 6 + 2, none⟩ = some (.bool (V (k * 6 + 2))) := (HB.out.cell (p := ⟨ag, ao + (k * 6 + 2), none⟩) al2).trans ac2
        have az : ag < wr.heap.size := Nat.lt_of_lt_of_le al0 HB.out.size
        clear ac0 al0 ac1 al1 ac2 al2
        obtain ⟨bg, bo, rfl, bl0, bc0⟩ := HO4.out (k * 3) (by omega)
        obtain ⟨g', o', e', bl1, bc1⟩ := HO4.out (k * 3 + 1) (by omega)
        cases e'
        obtain ⟨g', o', e', bl2, bc2⟩ := HO4.out (k * 3 + 2) (by omega)
        cases e'
        have bd0 : wr.cell? ⟨bg, bo + k * 3, none⟩ = some (.bool (U (k * 3))) := (HB.out.cell (p := ⟨bg, bo + (k * 3), none⟩) bl0).trans bc0
        have bd1 : wr.cell? ⟨bg, bo + k * 3 + 1, none⟩ = some (.bool (U (k * 3 + 1))) := (HB.out.cell (p := ⟨bg, bo + (k * 3 + 1), none⟩) bl1).trans bc1
        have bd2 : wr.cell? ⟨bg, bo + k * 3 + 2, none⟩ = some (.bool (U (k * 3 + 2))) := (HB.out.cell (p := ⟨bg, bo + (k * 3 + 2), none⟩) bl2).trans bc2
        have bz : bg < wr.heap.size := Nat.lt_of_lt_of_le bl0 HB.out.size
        clear bc0 bl0 bc1 bl1 bc2 bl2
        obtain ⟨cg, co, rfl, cl0, cc0⟩ := HP4.out (k * 3) (by omega)
        obtain ⟨g', o', e', cl1, cc1⟩ := HP4.out (k * 3 + 1) (by omega)
        cases e'
        obtain ⟨g', o', e', cl2, cc2⟩ := HP4.out (k * 3 + 2) (by omega)
        cases e'
        have cd0 : wr.cell? ⟨cg, co + k * 3, none⟩ = some (.bool (U (k * 3))) := (HB.out.cell (p := ⟨cg, co + (k * 3), none⟩) cl0).trans cc0
        have cd1 : wr.cell? ⟨cg, co + k * 3 + 1, none⟩ = some (.bool (U (k * 3 + 1))) := (HB.out.cell (p := ⟨cg, co + (k * 3 + 1), none⟩) cl1).trans cc1
        have cd2 : wr.cell? ⟨cg, co + k * 3 + 2, none⟩ = some (.bool (U (k * 3 + 2))) := (HB.out.cell (p := ⟨cg, co + (k * 3 + 2), none⟩) cl2).trans cc2
        have cz : cg < wr.heap.size := Nat.lt_of_lt_of_le cl0 HB.out.size
        clear cc0 cl0 cc1 cl1 cc2 cl2
        have HV : Hid (valB (sgt V) ((k + 1) * 4) = valB (sgt V) (k * 4) ++ [.bool (V (k * 6)), .bool (V (k * 6 + 1)), .bool (V (k * 6 + 2)), .bool (U (k * 3 + 2))]) := by
          show _ = _
          rw [valB_four, (HSg.out k).1, (HSg.out k).2.1, (HSg.out k).2.2.1, (HSg.out k).2.2.2]
        obtain ⟨q0, hq0⟩ : ∃ q, V (k * 6) = q := ⟨_, rfl⟩
        rw [hq0] at ad0 HV
        clear hq0
        obtain ⟨q1, hq1⟩ : ∃ q, V (k * 6 + 1) = q := ⟨_, rfl⟩
        rw [hq1] at ad1 HV
        clear hq1
        obtain ⟨q2, hq2⟩ : ∃ q, V (k * 6 + 2) = q := ⟨_, rfl⟩
        rw [hq2] at ad2 HV
        clear hq2
        obtain ⟨q3, hq3⟩ : ∃ q, U (k * 3) = q := ⟨_, rfl⟩
        rw [hq3] at bd0 cd0
        clear hq3
        obtain ⟨q4, hq4⟩ : ∃ q, U (k * 3 + 1) = q := ⟨_, rfl⟩
        rw [hq4] at bd1 cd1
        clear hq4
        obtain ⟨q5, hq5⟩ : ∃ q, U (k * 3 + 2) = q := ⟨_, rfl⟩
        rw [hq5] at bd2 cd2 HV
        clear hq5
        have NE := neq_out q3 q4 q5
        have k0 : (0 : Int) ≤ (k : Int) := by omega
        go_upto_region 16 with fail
        go_region
        all_goals
          go_upto_region 18 with fail
          obtain ⟨wd, hwd⟩ : ∃ wd, wd = wr.drew := ⟨_, rfl⟩
          rw [← hwd]
          have HWd : Hid (wd.ownsRow w4.heap.size 63 4 u11 k (valB (sgt V) (k * 4))) := hwd ▸ HW.out.drew
          have HBd : Hid (Below w4.heap.size w4 wd) := hwd ▸ (Below.trans HB.out (Below.mono (B := wr.heap.size) (Below.refl _ wr).drew sz))
          have szd : w4.heap.size ≤ wd.heap.size := HBd.out.size
          have zda : ag < wd.heap.size := by rw [hwd]; exact az
          have zdc : cg < wd.heap.size := by rw [hwd]; exact cz
          have e0 : wd.cell? ⟨ag, ao + k * 6, none⟩ = some (.bool q0) := by rw [hwd]; exact ad0
          have e1 : wd.cell? ⟨ag, ao + k * 6 + 1, none⟩ = some (.bool q1) := by rw [hwd]; exact ad1
          have e2 : wd.cell? ⟨ag, ao + k * 6 + 2, none⟩ = some (.bool q2) := by rw [hwd]; exact ad2
          have e3 : wd.cell? ⟨cg, co + k * 3 + 2, none⟩ = some (.bool q5) := by rw [hwd]; exact cd2
          have e0d : wd.drew.cell? ⟨ag, ao + k * 6, none⟩ = some (.bool q0) := e0
          have e1d : wd.drew.cell? ⟨ag, ao + k * 6 + 1, none⟩ = some (.bool q1) := e1
          have e2d : wd.drew.cell? ⟨ag, ao + k * 6 + 2, none⟩ = some (.bool q2) := e2
          have e3d : wd.drew.cell? ⟨cg, co + k * 3 + 2, none⟩ = some (.bool q5) := e3
          clear hwd ad0 ad1 ad2 bd0 bd1 bd2 cd0 cd1 cd2 az bz cz HB HW NE
          go_region_law (refine step_sgt w4.heap.size u11 k (valB (sgt V) (k * 4)) (.tmp 65) (.tmp 87) (by rfl) (by rfl) (by simp [Act.eval]) (by simp [Act.eval]) HWd.out.drew (by omega) (by simp; omega) ?_; intro g' cap' w5 hown5 hgrow5 hlt5; have HG5 : Hid (Below w4.heap.size wd w5) := grown_drew HWd.out hgrow5 szd; have HO5 : Hid (w5.ownsRow w4.heap.size 63 4 (.slice (some ⟨g', 0, none⟩) (k + 1) cap') (k + 1) (valB (sgt V) (k * 4) ++ [.bool q0, .bool q1, .bool q2, .bool q5])) := hown5; clear hgrow5 hown5)
          all_goals
            go_wp2
            go_roundw
            case rel => exact ⟨k + 1, by omega, by go_num, (by rw [HV.out]; exact HO5.out), HBd.out.trans HG5.out⟩
            case measure => simp [intOf]; omega
      case neg =>
        obtain rfl : k = N := by omega
        obtain ⟨sv, cv, hv, hcap, OB⟩ := own_OwnB4 HW.out
        have HOB : Hid (RowB wr sv (k * 4) (sgt V)) := OB.row
        clear OB
        subst hv
        go_wp2_with fail
        refine (implLawful_any sv k cv (sgt V) _ (by omega) hcap HOB.out).mono ?_
        rintro e w9 ⟨x, hx, rfl, h9⟩
        have hx1 : x = -1 := by
          rcases hx with ⟨_, e⟩ | ⟨_, ⟨e, _⟩ | ⟨j, _, _, e, _⟩⟩
          · exact e
          · exact e
          · rw [lawful_run] at e; cases e
        subst hx1
        go_wp2
        go_ret
        exact ⟨rfl, ((HB4.out.trans (HB.out.mono HB4.out.size)).trans (h9.mono (Nat.le_trans HB4.out.size sz)))⟩
theorem fnPurged_walk (w : World) (s : Option Addr) (n c : Nat) (hn : n ≤ 9223372036854775807) (R : Bytes w s n) :
    Calls Try.prog 8 #[.slice s n c] w fun e w' => e = .returned (.bool true) ∧ Below w.heap.size w w' := by
  by_cases h : n ≤ 1048576
  · exact fnPur_near w s n c (by omega) (R.code h)
  · exact fnPur_far w s n c (by omega)

set_option maxRecDepth 100000 in
theorem fnPurged_lifted (os : Os) (started : os.Started) (H : Type) (enc : TypeId × Value → H) :
    ReturnsInHanded {} Try.checked os 8 .any (Rows.fnPurgedSpec.pre6 enc Try.prog Try.f8 Rows.fnPurgedRow.domain false) (Rows.fnPurgedSpec.post enc Try.prog Try.f8 false true false false) := by
  refine returnsInHanded_of_change (C := Try.checked) own started (by kernel_rfl) Try.func8
    (ChangeSpec.witness6 (enc := enc) (C := Try.checked) false ⟨#[], #[.slice none 0 0], []⟩ 8 (by kernel_rfl) (by kernel_rfl) (by kernel_rfl) (by kernel_rfl)) ?_
  intro W base args ds gs before hval0 hW hcnd _
  have hval : ∀ (j : Nat) t v, Try.f8.params[j]? = some t → args[j]? = some v → Value.okWide Try.prog W .any base t v := hval0
  have hW' := hW
  obtain ⟨p, q, hA0, hV, rfl, hfz, hnd⟩ := hW
  have hA : DataW.TrodAll enc Try.prog W 0 (fun _ => true) true Try.f8.params.toList args.toList ds p := hA0
  rw [Try.params8] at hA hval
  obtain ⟨v0, vs0, d0, ds0, p0, q0, hargs, rfl, rfl, h0, r0⟩ := trodAll_cons hA
  obtain ⟨rfl, rfl, rfl⟩ := trodAll_nil r0
  obtain rfl : args = #[v0] := by cases args; simp_all
  obtain ⟨rfl, rfl⟩ := trodVars_none hV
  have k0 := h0
  have lt0 : ∀ x ∈ p0, x.block < W.heap.size := by obtain ⟨m, hm⟩ := k0; exact DataW.trod_lt m _ _ _ hm
  obtain ⟨s0, n0, c0, rfl, m0, R0⟩ := open_code Try.underlying58 Try.underlying5 (by kernel_rfl) (hval 0 58 v0 rfl rfl) h0
  clear hA0 hval0
  refine (fnPurged_walk W s0 n0 c0 m0 R0).mono fun e W' ⟨he, bel⟩ => ?_
  subst he
  exact ⟨_, rfl, _, _, _, [], _, [], hW', trodAll_mk1 (shut_bool Try.underlying4 _), (trodAll_cons_mk (Below.trod laidOut (by kernel_rfl) (of_decide_eq_true (by kernel_rfl)) k0 bel lt0) trodAll_mk0), rfl, bel.frame _, fun h => by cases h⟩

theorem fnPurged_holds : Rows.FnPurgedSaid :=
  OpenClaim.holds_of_wide 8 Try.f8 rfl rfl rfl rfl rfl rfl rfl ⟨rfl, rfl, rfl, rfl, rfl⟩ rfl rfl rfl rfl rfl (by kernel_rfl) Try.func8 (by kernel_rfl)
    (of_decide_eq_true (by kernel_rfl)) (by unfold Func.isWrapper; first | (rw [if_pos (by decide +kernel)]; kernel_rfl) | (rw [if_neg (by decide +kernel)]; exact ⟨rfl, rfl⟩))
    (fun os started H enc _ => fnPurged_lifted os started H enc)
#print axioms fnPurged_holds
end Go.Proofs.Ytpnihekpokfooaa
