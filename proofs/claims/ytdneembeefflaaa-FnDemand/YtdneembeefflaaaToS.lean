/-
What is proved: the specification's walk over all fillings, and what it tells a vote to bear.
-/
import Derived.Test.YtdneembeefflaaaToN
import Derived.Test.YtdneembeefflaaaVoS
import Derived.Test.YtdneembeefflaaaLkCT
import Derived.Test.YtdneembeefflaaaI64C
import Derived.Test.YtdneembeefflaaaIsW
import Derived.Deep.DeepCutAuto
namespace Go.Proofs.Ytdneembeefflaaa
set_option maxRecDepth 40000
open Go.ChangeShapes Go.WideShapes Go.ChangeAt Go.RowKit
set_option linter.unusedVariables false
set_option linter.unusedSimpArgs false

theorem upd_row {base : Nat} {w : World} {g n i : Nat} {V : Nat → Int} {x : Int} (h : OwnI base w (some ⟨g, 0, none⟩) n V) : OwnI base (w.setCell ⟨g, i, none⟩ (.int .i64 x)) (some ⟨g, 0, none⟩) n (updV V i x) := fun j hj => by
  obtain ⟨b, e, hB, hl, hc, hf⟩ := h j hj
  cases e
  refine ⟨g, rfl, hB, by simpa using hl, ?_, by simp [go_sem, hf]⟩
  unfold updV
  by_cases q : j = i
  · subst q; simp [go_sem, hc]
  · simp [go_sem, hc, q]
set_option maxRecDepth 20000 in
set_option maxHeartbeats 8000000 in
theorem l14All_any (q : Bool) (need : Int) (n : Nat) (hn : n ≤ 8) (hv : votersB n need = true) : ∀ (m i : Nat), i + m = n → ∀ (s : Option Addr) (c : Nat) (V : Nat → Int) (b k : Int) (w : World), 0 ≤ b → b ≤ 8 → 0 ≤ k → k ≤ 8 → allInB 0 3 V n = true → RowI w s n V → Calls Try.prog 15 #[.slice s n c, .int .i64 (i : Int), .int .i64 need, .int .i64 b, .int .i64 k, .int .i64 (wantV q), .int .i64 (wantV q)] w fun e w' => e = .returned (.bool (raB q need (leftN V i) (tripN V i) (m : Int) b k)) ∧ Below w.heap.size w w' := by
  have n1 : 1 ≤ n := by
    unfold votersB inB at hv
    simp at hv
    omega
  intro m
  induction m with
  | zero =>
    intro i hi s c V b k w b0 b8 k0 k8 hV R
    obtain rfl : i = n := by omega
    have HV : Hid (RowI w s i V) := R
    go_enter Try.func15, Try.ntmps15
    by_cases h0 : 0 < b + k
    · have HO : Hid (raB q need (leftN V i) (tripN V i) ((0 : Nat) : Int) b k = true) := by show _ = _; unfold raB; rw [if_pos (by omega)]
      have ws : IntKind.i64.wrap (b + k) = b + k := by rw [IntKind.wrap_i64]; omega
      have wi : IntKind.i64.wrap ((i : Int) - (i : Int)) = 0 := by rw [IntKind.wrap_i64]; omega
      have hd : decide (0 < b + k) = true := decide_eq_true h0
      go_wp2
      go_ret
      exact ⟨ret_bool HO.out.symm, Below.refl _ _⟩
    · obtain rfl : b = 0 := by omega
      obtain rfl : k = 0 := by omega
      have HO : Hid ((voteV i V need == wantV q) = raB q need (leftN V i) (tripN V i) ((0 : Nat) : Int) 0 0) := vote_is hv hV
      have ii : (i : Int) - (i : Int) = 0 := by omega
      go_wp2_with fail
      refine (specVote_any s i c V need _ (by omega) HV).mono ?_
      rintro e w1 ⟨rfl, h1⟩
      go_wp2
      go_ret
      exact ⟨ret_bool HO.out, (by first | exact h1 | exact h1 ▸ Below.refl _ _)⟩
  | succ m ih =>
    intro i hi s c V b k w b0 b8 k0 k8 hV R
    have HV : Hid (RowI w s n V) := R
    have hin : i < n := by omega
    obtain ⟨g, o, rfl, hg, -⟩ := R 0 (by omega)
    have HIH : Hid (∀ (s : Option Addr) (c : Nat) (V : Nat → Int) (b k : Int) (w : World), 0 ≤ b → b ≤ 8 → 0 ≤ k → k ≤ 8 → allInB 0 3 V n = true → RowI w s n V → Calls Try.prog 15 #[.slice s n c, .int .i64 ((i : Int) + 1), .int .i64 need, .int .i64 b, .int .i64 k, .int .i64 (wantV q), .int .i64 (wantV q)] w fun e w' => e = .returned (.bool (raB q need (leftN V (i + 1)) (tripN V (i + 1)) (m : Int) b k)) ∧ Below w.heap.size w w') := fun s c V b k w h1 h2 h3 h4 h5 h6 => ih (i + 1) (by omega) s c V b k w h1 h2 h3 h4 h5 h6
    clear ih R
    obtain ⟨L, hL⟩ : ∃ L : Int, (leftN V i : Int) = L := ⟨_, rfl⟩
    obtain ⟨T, hT⟩ : ∃ T : Int, (tripN V i : Int) = T := ⟨_, rfl⟩
    have HU : Hid (∀ x, 0 ≤ x → x ≤ 3 → (leftN (updV V i x) (i + 1) : Int) = L + (if x = 3 then 0 else 1) ∧ (tripN (updV V i x) (i + 1) : Int) = T + (if x = 1 ∨ x = 2 then 1 else 0)) := fun x h0 h3 => by rw [← hL, ← hT]; exact left_upd h0 h3
    have HIn : Hid (∀ x, 0 ≤ x → x ≤ 3 → allInB 0 3 (updV V i x) n = true) := fun x h0 h3 => upd_in hV h0 h3
    rw [hL, hT]
    have mi : ((m + 1 : Nat) : Int) = (n : Int) - (i : Int) := by omega
    rw [mi]
    have m1 : (m : Int) = (n : Int) - (i : Int) - 1 := by omega
    rw [m1] at HIH
    have n8 : (n : Int) ≤ 8 := by omega
    have i0 : (0 : Int) ≤ (i : Int) := by omega
    have i1 : (i : Int) < (n : Int) := by omega
    have ws : IntKind.i64.wrap (b + k) = b + k := by rw [IntKind.wrap_i64]; omega
    have wi : IntKind.i64.wrap ((n : Int) - (i : Int)) = (n : Int) - (i : Int) := by rw [IntKind.wrap_i64]; omega
    have wi1 : IntKind.i64.wrap ((i : Int) + 1) = (i : Int) + 1 := by rw [IntKind.wrap_i64]; omega
    have wb : IntKind.i64.wrap (b - 1) = b - 1 := by rw [IntKind.wrap_i64]; omega
    have wk : IntKind.i64.wrap (k - 1) = k - 1 := by rw [IntKind.wrap_i64]; omega
    have ne1 : ((i : Int) == (n : Int)) = false := by simp; omega
    clear hL hT hV mi m1 hv
    go_enter Try.func15, Try.ntmps15
    by_cases h0 : (n : Int) - (i : Int) < b + k
    · have HO : Hid (raB q need L T ((n : Int) - (i : Int)) b k = true) := by show _ = _; unfold raB; rw [if_pos h0]
      go_wp2
      go_ret
      exact ⟨ret_bool HO.out.symm, Below.refl _ _⟩
    have hd0 : decide ((n : Int) - (i : Int) < b + k) = false := decide_eq_false h0
    go_wp2_with fail
    go_loopw [15] (fun v wr => ∃ r : Int, 0 ≤ r ∧ r ≤ 4 ∧ v = .int .i64 r ∧ Hid (∀ x, 0 ≤ x → x < r → brB q need L T ((n : Int) - (i : Int)) b k x = true) ∧ Hid (Below w.heap.size w wr)) (fun v _ => (4 - intOf v).toNat)
    case atStart => exact ⟨0, by omega, by omega, rfl, fun x h1 h2 => by omega, Below.refl _ _⟩
    case round =>
      obtain ⟨r, r0, r4, rfl, HP, HB⟩ := hrel
      replace HV : Hid (RowI wr (some ⟨g, o, none⟩) n V) := HV.out.below HB.out
      by_cases hr : r ≤ 3
      · have hd1 : decide (r ≤ 3) = true := decide_eq_true hr
        go_upto_region 9 with (first | (refine list_clone _ ⟨g, o, none⟩ n c V _ _ (by rfl) (by rfl) (by rfl) (by rfl) rfl (by omega) HV.out ?_; intro s2 cap2 w2 O2 h2))
        obtain ⟨g2, e2, gb2, zg2, cg2, fg2⟩ := O2 i hin
        cases e2
        have HO2 : Hid (OwnI wr.heap.size w2 (some ⟨g2, 0, none⟩) n V) := O2
        have HB2 : Hid (Below w.heap.size w w2) := HB.out.trans (h2.mono HB.out.size)
        clear O2 h2
        go_upto_region 10 with fail
        obtain ⟨w3, hw3⟩ : ∃ x_, x_ = w2.setCell ⟨g2, i, none⟩ (.int .i64 r) := ⟨_, rfl⟩
        rw [← hw3]
        have HR3 : Hid (RowI w3 (some ⟨g2, 0, none⟩) n (updV V i r)) := by show RowI _ _ _ _; rw [hw3]; exact (upd_row HO2.out).row
        have HB3 : Hid (Below w.heap.size w w3) := by show Below _ _ _; rw [hw3]; exact HB2.out.trans ((Beside.setCell g2 w2 i _).below (by have := HB.out.size; omega) HB2.out.size)
        clear hw3 HO2 HB2 cg2 fg2 zg2 gb2
        obtain ⟨u1, u2⟩ := HU.out r r0 hr
        have ui := HIn.out r r0 hr
        by_cases e3 : r = 3
        · subst e3
          by_cases hb : 0 < b
          · have hd2 : decide (0 < b) = true := decide_eq_true hb
            have HC : Hid (∀ c w, RowI w (some ⟨g2, 0, none⟩) n (updV V i 3) → Calls Try.prog 15 #[.slice (some ⟨g2, 0, none⟩) n c, .int .i64 ((i : Int) + 1), .int .i64 need, .int .i64 (b - 1), .int .i64 k, .int .i64 (wantV q), .int .i64 (wantV q)] w fun e w' => e = .returned (.bool (brB q need L T ((n : Int) - (i : Int)) b k 3)) ∧ Below w.heap.size w w') := fun c w h => by
              have := HIH.out _ c _ (b - 1) k w (by omega) (by omega) k0 k8 ui h
              rw [u1, u2] at this
              unfold brB
              rw [if_pos rfl, if_pos hb]
              simpa using this
            clear u1 u2 ui
            go_wp2_with fail
            refine (HC.out _ _ HR3.out).mono ?_
            rintro e w4 ⟨rfl, h4⟩
            have HB4 : Hid (Below w.heap.size w w4) := HB3.out.trans (h4.mono HB3.out.size)
            clear h4
            cases ha : brB q need L T ((n : Int) - (i : Int)) b k 3
            · have HO : Hid (raB q need L T ((n : Int) - (i : Int)) b k = false) := br_no (by omega) b0 k0 (by omega) (by omega) (by omega) ha
              go_wp2
              go_ret
              exact ⟨ret_bool HO.out.symm, HB4.out⟩
            · go_wp2
              go_roundw
              case rel => exact ⟨4, by omega, by omega, by go_num, (fun x h1 h2 => by
                by_cases e : x = 3
                · rw [e]; exact ha
                · exact HP.out x h1 (by omega)), HB4⟩
              case measure => simp [intOf]
          · have hd2 : decide (0 < b) = false := decide_eq_false hb
            have ha : brB q need L T ((n : Int) - (i : Int)) b k 3 = true := by unfold brB; rw [if_pos rfl, if_neg hb]
            clear u1 u2 ui
            go_wp2
            go_roundw
            case rel => exact ⟨4, by omega, by omega, by go_num, (fun x h1 h2 => by
              by_cases e : x = 3
              · rw [e]; exact ha
              · exact HP.out x h1 (by omega)), HB3⟩
            case measure => simp [intOf]
        · have hd3 : (r == 3) = false := by simpa using e3
          have hr2 : r ≤ 2 := by omega
          by_cases hk : 0 < k
          · have hd2 : decide (0 < k) = true := decide_eq_true hk
            have HC : Hid (∀ c w, RowI w (some ⟨g2, 0, none⟩) n (updV V i r) → Calls Try.prog 15 #[.slice (some ⟨g2, 0, none⟩) n c, .int .i64 ((i : Int) + 1), .int .i64 need, .int .i64 b, .int .i64 (k - 1), .int .i64 (wantV q), .int .i64 (wantV q)] w fun e w' => e = .returned (.bool (brB q need L T ((n : Int) - (i : Int)) b k r)) ∧ Below w.heap.size w w') := fun c w h => by
              have := HIH.out _ c _ b (k - 1) w b0 b8 (by omega) (by omega) ui h
              rw [u1, u2, if_neg e3] at this
              unfold brB
              rw [if_neg e3, if_pos hk]
              have et : (if r = 1 ∨ r = 2 then (1 : Int) else 0) = (if r = 0 then 0 else 1) := by
                rcases (by omega : r = 0 ∨ r = 1 ∨ r = 2) with e | e | e <;> rw [e] <;> rfl
              rw [et] at this
              exact this
            clear u1 u2 ui
            go_wp2_with fail
            refine (HC.out _ _ HR3.out).mono ?_
            rintro e w4 ⟨rfl, h4⟩
            have HB4 : Hid (Below w.heap.size w w4) := HB3.out.trans (h4.mono HB3.out.size)
            clear h4
            cases ha : brB q need L T ((n : Int) - (i : Int)) b k r
            · have HO : Hid (raB q need L T ((n : Int) - (i : Int)) b k = false) := br_no (by omega) b0 k0 (by omega) r0 hr ha
              go_wp2
              go_ret
              exact ⟨ret_bool HO.out.symm, HB4.out⟩
            · go_wp2
              go_roundw
              case rel => exact ⟨r + 1, by omega, by omega, by go_num, (fun x h1 h2 => by
                by_cases e : x = r
                · rw [e]; exact ha
                · exact HP.out x h1 (by omega)), HB4⟩
              case measure => simp [intOf]; omega
          · have hd2 : decide (0 < k) = false := decide_eq_false hk
            have ha : brB q need L T ((n : Int) - (i : Int)) b k r = true := by unfold brB; rw [if_neg e3, if_neg hk]
            clear u1 u2 ui
            go_wp2
            go_roundw
            case rel => exact ⟨r + 1, by omega, by omega, by go_num, (fun x h1 h2 => by
              by_cases e : x = r
              · rw [e]; exact ha
              · exact HP.out x h1 (by omega)), HB3⟩
            case measure => simp [intOf]; omega
      · have hd1 : decide (r ≤ 3) = false := decide_eq_false hr
        have HO : Hid (raB q need (L + 1) (T + wantV q) ((n : Int) - (i : Int) - 1) b k = raB q need L T ((n : Int) - (i : Int)) b k) := br_end (by omega) b0 k0 (by omega) (fun x h1 h2 => HP.out x h1 (by omega))
        go_upto_region 16 with (first | (refine list_clone _ ⟨g, o, none⟩ n c V _ _ (by rfl) (by rfl) (by rfl) (by rfl) rfl (by omega) HV.out ?_; intro s2 cap2 w2 O2 h2))
        obtain ⟨g2, e2, gb2, zg2, cg2, fg2⟩ := O2 i hin
        cases e2
        have HO2 : Hid (OwnI wr.heap.size w2 (some ⟨g2, 0, none⟩) n V) := O2
        have HB2 : Hid (Below w.heap.size w w2) := HB.out.trans (h2.mono HB.out.size)
        clear O2 h2
        go_upto_region 17 with fail
        obtain ⟨w3, hw3⟩ : ∃ x_, x_ = w2.setCell ⟨g2, i, none⟩ (.int .i64 (wantV q)) := ⟨_, rfl⟩
        rw [← hw3]
        have HR3 : Hid (RowI w3 (some ⟨g2, 0, none⟩) n (updV V i (wantV q))) := by show RowI _ _ _ _; rw [hw3]; exact (upd_row HO2.out).row
        have HB3 : Hid (Below w.heap.size w w3) := by show Below _ _ _; rw [hw3]; exact HB2.out.trans ((Beside.setCell g2 w2 i _).below (by have := HB.out.size; omega) HB2.out.size)
        clear hw3 HO2 HB2 cg2 fg2 zg2 gb2
        have wq : 0 ≤ wantV q ∧ wantV q ≤ 1 := by unfold wantV; split <;> omega
        obtain ⟨u1, u2⟩ := HU.out (wantV q) wq.1 (by omega)
        have ui := HIn.out (wantV q) wq.1 (by omega)
        have HC : Hid (∀ c w, RowI w (some ⟨g2, 0, none⟩) n (updV V i (wantV q)) → Calls Try.prog 15 #[.slice (some ⟨g2, 0, none⟩) n c, .int .i64 ((i : Int) + 1), .int .i64 need, .int .i64 b, .int .i64 k, .int .i64 (wantV q), .int .i64 (wantV q)] w fun e w' => e = .returned (.bool (raB q need L T ((n : Int) - (i : Int)) b k)) ∧ Below w.heap.size w w') := fun c w h => by
          have := HIH.out _ c _ b k w b0 b8 k0 k8 ui h
          rw [u1, u2, if_neg (by omega)] at this
          have et : (if wantV q = 1 ∨ wantV q = 2 then (1 : Int) else 0) = wantV q := by unfold wantV; cases q <;> rfl
          rw [et, HO.out] at this
          exact this
        clear u1 u2 ui wq
        go_wp2_with fail
        refine (HC.out _ _ HR3.out).mono ?_
        rintro e w4 ⟨rfl, h4⟩
        have HB4 : Hid (Below w.heap.size w w4) := HB3.out.trans (h4.mono HB3.out.size)
        clear h4
        go_wp2
        go_ret
        exact ⟨rfl, HB4.out⟩
end Go.Proofs.Ytdneembeefflaaa
