/-
What is proved: what a reader leaves when it draws a number: any int64.
-/
import Derived.Test.YtpaiajeigdifcaaQcD
import Derived.Test.YtpaiajeigdifcaaTrDz
import Derived.Test.YtpaiajeigdifcaaQcC
import Derived.Laws.AppendOwn
namespace Go.Proofs.Ytpaiajeigdifcaa
set_option maxRecDepth 40000
open Go.RowKit
set_option linter.unusedVariables false

set_option maxHeartbeats 4000000 in
theorem number_any {r : Nat} {s : Option Addr} {n c p : Nat} {w : World} (h : Hid (Rd w r s n c p)) :
    Calls Try.prog 72 #[.pointer (some ⟨r, 0, none⟩)] w fun e w' => ∃ k p', e = .returned (.int .i64 k) ∧ (Lit.int .i64 k).wf = true ∧ Rd w' r s n c p' ∧ Beside r w w' := by
  go_enter Try.func72, Try.ntmps72
  go_wp2_with fail
  refine (below_any 5 h).mono ?_
  rintro e w1 ⟨k, p1, rfl, k0, k1, k2, R1, b1⟩
  by_cases e0 : k = 0
  · subst e0
    go_wp2_with fail
    refine (below_any 300 R1).mono ?_
    rintro e w2 ⟨j, p2, rfl, j0, j1, j2, R2, b2⟩
    go_wp2
    go_ret
    exact ⟨_, p2, rfl, wfi (by omega) (by omega), R2, b1.trans b2⟩
  · by_cases e1 : k = 1
    · subst e1
      go_wp2_with fail
      refine (below_any 12 (Rd.below R1 (below0 w1 _))).mono ?_
      rintro e w2 ⟨j, p2, rfl, j0, j1, j2, R2, b2⟩
      have b3 : Beside r w w2 := (b1.later (below0 w1 _)).trans b2
      have zr : w1.heap.size ≠ r := by have := R1.1; omega
      have zs : w1.heap.size < w2.heap.size := by have := b2.2.2.2.1; simp at this; omega
      have hc : ∀ i, w2.cell? ⟨w1.heap.size, i, none⟩ = (w1.alloc (.cells #[.int .i64 0, .int .i64 1, .int .i64 (-1), .int .i64 127, .int .i64 128, .int .i64 2147483648, .int .i64 1000000000, .int .i64 1000000001, .int .i64 (-1000000000), .int .i64 9007199254740993, .int .i64 9223372036854775807, .int .i64 (-9223372036854775808)] 2)).cell? ⟨w1.heap.size, i, none⟩ := fun i => b2.cell (p := ⟨w1.heap.size, i, none⟩) (by simp) zr
      have jj : j = 0 ∨ j = 1 ∨ j = 2 ∨ j = 3 ∨ j = 4 ∨ j = 5 ∨ j = 6 ∨ j = 7 ∨ j = 8 ∨ j = 9 ∨ j = 10 ∨ j = 11 := by omega
      clear j0 j1 j2
      rcases jj with rfl | rfl | rfl | rfl | rfl | rfl | rfl | rfl | rfl | rfl | rfl | rfl
      · have hq := (hc 0).trans (show _ = some (.int .i64 0) by simp [go_sem])
        clear hc
        go_wp2
        go_ret
        exact ⟨0, p2, rfl, by decide, R2, b3⟩
      · have hq := (hc 1).trans (show _ = some (.int .i64 1) by simp [go_sem])
        clear hc
        go_wp2
        go_ret
        exact ⟨1, p2, rfl, by decide, R2, b3⟩
      · have hq := (hc 2).trans (show _ = some (.int .i64 (-1)) by simp [go_sem])
        clear hc
        go_wp2
        go_ret
        exact ⟨(-1), p2, rfl, by decide, R2, b3⟩
      · have hq := (hc 3).trans (show _ = some (.int .i64 127) by simp [go_sem])
        clear hc
        go_wp2
        go_ret
        exact ⟨127, p2, rfl, by decide, R2, b3⟩
      · have hq := (hc 4).trans (show _ = some (.int .i64 128) by simp [go_sem])
        clear hc
        go_wp2
        go_ret
        exact ⟨128, p2, rfl, by decide, R2, b3⟩
      · have hq := (hc 5).trans (show _ = some (.int .i64 2147483648) by simp [go_sem])
        clear hc
        go_wp2
        go_ret
        exact ⟨2147483648, p2, rfl, by decide, R2, b3⟩
      · have hq := (hc 6).trans (show _ = some (.int .i64 1000000000) by simp [go_sem])
        clear hc
        go_wp2
        go_ret
        exact ⟨1000000000, p2, rfl, by decide, R2, b3⟩
      · have hq := (hc 7).trans (show _ = some (.int .i64 1000000001) by simp [go_sem])
        clear hc
        go_wp2
        go_ret
        exact ⟨1000000001, p2, rfl, by decide, R2, b3⟩
      · have hq := (hc 8).trans (show _ = some (.int .i64 (-1000000000)) by simp [go_sem])
        clear hc
        go_wp2
        go_ret
        exact ⟨(-1000000000), p2, rfl, by decide, R2, b3⟩
      · have hq := (hc 9).trans (show _ = some (.int .i64 9007199254740993) by simp [go_sem])
        clear hc
        go_wp2
        go_ret
        exact ⟨9007199254740993, p2, rfl, by decide, R2, b3⟩
      · have hq := (hc 10).trans (show _ = some (.int .i64 9223372036854775807) by simp [go_sem])
        clear hc
        go_wp2
        go_ret
        exact ⟨9223372036854775807, p2, rfl, by decide, R2, b3⟩
      · have hq := (hc 11).trans (show _ = some (.int .i64 (-9223372036854775808)) by simp [go_sem])
        clear hc
        go_wp2
        go_ret
        exact ⟨(-9223372036854775808), p2, rfl, by decide, R2, b3⟩
    · by_cases e2 : k = 2
      · subst e2
        go_wp2_with fail
        refine (word_any R1).mono ?_
        rintro e w2 ⟨x, p2, rfl, hx, R2, b2⟩
        go_wp2_with fail
        refine (below_any 60 R2).mono ?_
        rintro e w3 ⟨j, p3, rfl, j0, j1, j2, R3, b3⟩
        go_wp2
        go_ret
        exact ⟨_, p3, rfl, wrap64_wf _, R3, (b1.trans b2).trans b3⟩
      · go_wp2_with fail
        refine (below_any 20 R1).mono ?_
        rintro e w2 ⟨j, p2, rfl, j0, j1, j2, R2, b2⟩
        go_wp2
        go_ret
        exact ⟨j, p2, rfl, wfi (by omega) (by omega), R2, b1.trans b2⟩


open Go.ChangeShapes Go.WideShapes Go.ChangeAt Go.RowKit
set_option linter.unusedVariables false
set_option linter.unusedSimpArgs false

def SetPost (r : Nat) (s : Option Addr) (n c : Nat) (w : World) (e : Ending) (w' : World) : Prop := ∃ (t : Option Addr) (m cap p' : Nat) (U : Nat → Int), e = .returned (.slice t m cap) ∧ m ≤ 13 ∧ Lst w.heap.size 2 1 w' (.slice t m cap) m U ∧ Rd w' r s n c p' ∧ Beside r w w'
set_option maxRecDepth 20000 in
set_option maxHeartbeats 8000000 in
theorem set_any {r : Nat} {s : Option Addr} {n c p : Nat} {w : World} (x : Int) (h : Hid (Rd w r s n c p)) : Calls Try.prog 43 #[.pointer (some ⟨r, 0, none⟩), .int .i64 x] w fun e w' => SetPost r s n c w e w' := by
  have zr0 : r < w.heap.size := h.out.1
  have HR : Hid (Rd w r s n c p) := h
  have HS : Hid (Beside r w w) := Beside.of (Below.refl _ _)
  clear h
  go_enter Try.func43, Try.ntmps43
  go_upto_region 2 with fail
  obtain ⟨y0, hw_⟩ : ∃ z, z = w.alloc (.cells #[] 2) := ⟨_, rfl⟩
  rw [← hw_]
  have b_ : Below w.heap.size w y0 := by rw [hw_]; exact below0 _ _
  obtain ⟨B, hB⟩ : ∃ z, z = w.heap.size := ⟨_, rfl⟩
  have HBQ : Hid (B = w.heap.size) := hB
  have HL : Hid (Lst B 2 1 y0 (.slice (some ⟨B, 0, none⟩) 0 0) 0 (fun _ => 0)) := by show Lst _ _ _ _ _ _ _; rw [hw_, hB]; exact Lst.lit w _ _ 2 1 _ (Nat.le_refl _)
  replace HR : Hid (Rd y0 r s n c p) := HR.out.below b_
  replace HS : Hid (Beside r w y0) := Beside.of b_
  have HZ : Hid (B ≤ y0.heap.size) := by show _ ≤ _; rw [hB]; exact b_.size
  have zB : r < B := by omega
  have zw : w.heap.size ≤ B := by omega
  try rw [← hB]
  clear hw_ b_ hB
  go_wp2_with fail
  go_loopw [5, 6] (fun v i wx => ∃ (k l p5 : Nat) (U : Nat → Int), k ≤ 12 ∧ l ≤ k ∧ i = .int .i64 k ∧ Hid (Rd wx r s n c p5) ∧ Hid (Beside r w wx) ∧ Hid (B ≤ wx.heap.size) ∧ Hid (Lst B 2 1 wx v l U)) (fun _ i _ => 12 - (intOf i).toNat)
  case atStart => exact ⟨0, 0, p, _, by omega, by omega, rfl, HR, HS, HZ, HL⟩
  case round =>
    clear HR HS HZ HL
    obtain ⟨k, l, p5, U, hk, hl, rfl, HR, HS, HZ, HL⟩ := hrel
    rename World => wa
    obtain ⟨tv, cv, ev⟩ := HL.out.form
    subst ev
    rcases (show ((k : Int) < x ∧ (k : Int) < 12) ∨ (decide ((k : Int) < x) = true ∧ decide ((k : Int) < 12) = false) ∨ decide ((k : Int) < x) = false from by
      by_cases e : (k : Int) < x
      · by_cases e2 : (k : Int) < 12
        · exact Or.inl ⟨e, e2⟩
        · exact Or.inr (Or.inl ⟨decide_eq_true e, decide_eq_false e2⟩)
      · exact Or.inr (Or.inr (decide_eq_false e))) with ⟨c1, c2⟩ | ⟨c1, c2⟩ | c1
    case inl =>
      go_upto_region 5 with fail
      go_wp2_with fail
      refine (once_any 2 (by omega) (by omega) HR).mono ?_
      rintro e y1 ⟨b, q6, rfl, R_, b_⟩
      have zr_ : r < wa.heap.size := HR.out.1
      replace HS : Hid (Beside r w y1) := HS.out.trans b_
      replace HZ : Hid (B ≤ y1.heap.size) := Nat.le_trans HZ.out b_.2.2.2.1
      replace HL : Hid (Lst B 2 1 y1 (.slice tv l cv) l U) := HL.out.beside b_ (by omega)
      replace HR : Hid (Rd y1 r s n c q6) := R_
      clear R_ b_ zr_
      cases b
      · go_wp2
        go_roundw
        case rel => exact ⟨k + 1, l, q6, U, by omega, by omega, by go_num, HR, HS, HZ, HL⟩
        case measure => first | (simp [intOf]; done) | (simp [intOf]; omega)
      · have zy_ : B ≤ y1.heap.size := HZ.out
        go_wp2_with (at_builtin; refine list_i64L B (.slice tv l cv) l U (.tmp 19) (.tmp 21) (by rfl) (by rfl) (by rfl) (by rfl) HL.out (by omega) (by omega) ?_; intro g9 cap9 w9 l9 b9)
        have HR9 : Hid (Rd w9 r s n c q6) := Rd.below' HR.out (b9.mono (by omega))
        have HS9 : Hid (Beside r w w9) := HS.out.onB (b9.mono (by omega))
        have HZ9 : Hid (B ≤ w9.heap.size) := Nat.le_trans HZ.out b9.size
        have HL9 : Hid (Lst B 2 1 w9 (.slice (some ⟨g9, 0, none⟩) (l + 1) cap9) (l + 1) (putL U 1 l [(k : Int)])) := l9
        go_roundw
        case rel => exact ⟨k + 1, l + 1, q6, _, by omega, by omega, by go_num, HR9, HS9, HZ9, HL9⟩
        case measure => first | (simp [intOf]; done) | (simp [intOf]; omega)
    all_goals
      go_upto_region 7 with fail
      go_wp2_with fail
      refine (once_any 20 (by omega) (by omega) HR).mono ?_
      rintro e y2 ⟨b, q6, rfl, R_, b_⟩
      have zr_ : r < wa.heap.size := HR.out.1
      replace HS : Hid (Beside r w y2) := HS.out.trans b_
      replace HZ : Hid (B ≤ y2.heap.size) := Nat.le_trans HZ.out b_.2.2.2.1
      replace HL : Hid (Lst B 2 1 y2 (.slice tv l cv) l U) := HL.out.beside b_ (by omega)
      replace HR : Hid (Rd y2 r s n c q6) := R_
      clear R_ b_ zr_
      cases b
      case false =>
        have HP : Hid (Lst w.heap.size 2 1 y2 (.slice tv l cv) l U ∧ Rd y2 r s n c q6 ∧ Beside r w y2) := ⟨HL.out.lowL zw, HR.out, HS.out⟩
        go_wp2
        go_ret
        exact ⟨tv, l, cv, q6, U, rfl, by omega, HP.out.1, HP.out.2.1, HP.out.2.2⟩
      case true =>
        go_upto_region 8 with fail
        go_wp2_with fail
        refine (number_any HR).mono ?_
        rintro e y3 ⟨nx, q7, rfl, nwf, R_, b_⟩
        have zr_ : r < y2.heap.size := HR.out.1
        replace HS : Hid (Beside r w y3) := HS.out.trans b_
        replace HZ : Hid (B ≤ y3.heap.size) := Nat.le_trans HZ.out b_.2.2.2.1
        replace HL : Hid (Lst B 2 1 y3 (.slice tv l cv) l U) := HL.out.beside b_ (by omega)
        replace HR : Hid (Rd y3 r s n c q7) := R_
        clear R_ b_ zr_
        have zy_ : B ≤ y3.heap.size := HZ.out
        go_wp2_with (at_builtin; refine list_i64L B (.slice tv l cv) l U (.tmp 25) (.tmp 28) (by rfl) (by rfl) (by rfl) (by rfl) HL.out (by omega) (by omega) ?_; intro g9 cap9 w9 l9 b9)
        have HP : Hid (Lst w.heap.size 2 1 w9 (.slice (some ⟨g9, 0, none⟩) (l + 1) cap9) (l + 1) (putL U 1 l [nx]) ∧ Rd w9 r s n c q7 ∧ Beside r w w9) := ⟨Lst.lowL l9 zw, Rd.below' HR.out (b9.mono (by omega)), HS.out.onB (b9.mono (by omega))⟩
        clear l9 b9
        go_ret
        exact ⟨_, l + 1, cap9, q7, _, rfl, by omega, HP.out.1, HP.out.2.1, HP.out.2.2⟩

open Go.ChangeShapes Go.WideShapes Go.ChangeAt Go.RowKit
set_option linter.unusedVariables false
set_option linter.unusedSimpArgs false

def DfbPost (w : World) (e : Ending) (w' : World) : Prop := ∃ (x : Int) (t : Option Addr) (m cap : Nat) (X : Nat → Int) (K : Nat → Nat) (V : Nat → Nat → Int) (t2 : Option Addr) (m2 cap2 : Nat) (U : Nat → Int), e = .returned (.tuple #[.agg #[.int .i64 x, .slice t m cap], .slice t2 m2 cap2]) ∧ m2 ≤ 13 ∧ RowGat w' t m X K V ∧ RowI w' t2 m2 U ∧ Below w.heap.size w w'
set_option maxRecDepth 20000 in
set_option maxHeartbeats 8000000 in
theorem drawFailsBy_any (s : Option Addr) (n c : Nat) (w : World) (h : Hid (Code8 w s n)) : Calls Try.prog 16 #[.slice s n c] w fun e w' => DfbPost w e w' := by
  go_enter Try.func16, Try.ntmps16
  go_upto_region 1 with fail
  obtain ⟨y0, hw_⟩ : ∃ z, z = w.alloc (.cells #[.int .i64 0, .slice none 0 0] 26) := ⟨_, rfl⟩
  rw [← hw_]
  have b0 : Below w.heap.size w y0 := by rw [hw_]; exact below0 _ _
  obtain ⟨gq, hgq⟩ : ∃ z, z = w.heap.size := ⟨_, rfl⟩
  have HQ : Hid (Blk y0 gq [.int .i64 0, .slice none 0 0]) := by show Blk _ _ _; rw [hw_, hgq]; exact Blk.new w #[.int .i64 0, .slice none 0 0] 26
  have HGQ : Hid (w.heap.size ≤ gq) := by show _ ≤ _; omega
  try rw [← hgq]
  clear hw_ hgq
  go_wp2_with fail
  refine (open_any (h.out.below b0)).mono ?_
  rintro e y1 ⟨rfl, R_, b_⟩
  obtain ⟨r, hr⟩ : ∃ r, r = y0.heap.size := ⟨_, rfl⟩
  rw [← hr] at R_
  have HR : Hid (Rd y1 r s n c 0) := R_
  have zq : gq < r := by rw [hr]; exact HQ.out.1
  have zwr : w.heap.size ≤ r := by rw [hr]; exact b0.size
  have HS : Hid (Below w.heap.size w y1) := b0.trans (b_.mono b0.size)
  replace HQ : Hid (Blk y1 gq [.int .i64 0, .slice none 0 0]) := HQ.out.below b_
  try rw [← hr]
  clear R_ b_ b0 h hr
  go_upto_region 2 with fail
  go_wp2_with fail
  refine (tree_any HR).mono ?_
  rintro e y2 ⟨x, t, m, cap, q1, rfl, m21, -, G_, R_, b_⟩
  have zr1 : r < y1.heap.size := HR.out.1
  have HG : Hid (GtL (r + 1) y2 (.slice t m cap) m) := G_.low (by omega)
  replace HQ : Hid (Blk y2 gq [.int .i64 0, .slice none 0 0]) := HQ.out.beside b_ (by omega)
  replace HS : Hid (Below w.heap.size w y2) := HS.out.trans (b_.below zwr (HS.out.size))
  replace HR : Hid (Rd y2 r s n c q1) := R_
  clear G_ R_ b_ zr1
  go_upto_region 3 with fail
  obtain ⟨y3, hw_⟩ : ∃ z, z = y2.alloc (.cells #[.int .i64 x, .slice t m cap] 26) := ⟨_, rfl⟩
  rw [← hw_]
  have b_ : Below y2.heap.size y2 y3 := by rw [hw_]; exact below0 _ _
  obtain ⟨gt, hgt⟩ : ∃ z, z = y2.heap.size := ⟨_, rfl⟩
  have HF : Hid (Blk y3 gt [.int .i64 x, .slice t m cap]) := by show Blk _ _ _; rw [hw_, hgt]; exact Blk.new y2 #[.int .i64 x, .slice t m cap] 26
  have zt : r < gt := by rw [hgt]; exact HR.out.1
  replace HR : Hid (Rd y3 r s n c q1) := HR.out.below b_
  replace HQ : Hid (Blk y3 gq [.int .i64 0, .slice none 0 0]) := HQ.out.below b_
  replace HG : Hid (GtL (r + 1) y3 (.slice t m cap) m) := HG.out.below b_
  replace HS : Hid (Below w.heap.size w y3) := HS.out.trans (b_.mono HS.out.size)
  try rw [← hgt]
  clear hw_ b_ hgt
  go_upto_region 3 with fail
  refine wp_region_held_drew (S := fun w' => w'.cell? ⟨gt, 0, none⟩ = some (.int .i64 x) ∧ w'.cell? ⟨gt, 1, none⟩ = some (.slice t m cap) ∧ gt < w'.heap.size) (by kernel_rfl) ?_ (fun hHeld => ?_)
  · exact ⟨HF.out.2.2 0 _ rfl, HF.out.2.2 1 _ rfl, HF.out.1⟩
  obtain ⟨v0, hv0⟩ : ∃ z, z = y3.drew := ⟨_, rfl⟩
  try rw [← hv0] at hHeld
  rw [← hv0]
  have bv0 : Below y3.heap.size y3 v0 := by rw [hv0]; exact Below.drew (Below.refl _ _)
  clear hv0
  replace HS : Hid (Below w.heap.size w v0) := HS.out.trans (bv0.mono HS.out.size)
  replace HR : Hid (Rd v0 r s n c q1) := HR.out.below bv0
  replace HQ : Hid (Blk v0 gq [.int .i64 0, .slice none 0 0]) := HQ.out.below bv0
  replace HG : Hid (GtL (r + 1) v0 (.slice t m cap) m) := HG.out.below bv0
  replace HF : Hid (Blk v0 gt [.int .i64 x, .slice t m cap]) := HF.out.below bv0
  clear bv0
  refine wpAnyH_take (i := 0) (v := .agg #[.int .i64 x, .slice t m cap]) rfl (by kernel_rfl) (by kernel_rfl) (by kernel_rfl) (fun _ _ _ h => h) (Or.inl ⟨by kernel_rfl, ?_⟩) hHeld ?_
  · intro w' hSw
    obtain ⟨hc0, hc1, hz1⟩ := hSw
    first | (go_simp; done) | (go_simp; with_reducible rfl) | (go_simp; rw [IntKind.wrap_i64]; omega) | (go_simp; omega)
  simp only [Act.put, List.setIfInBounds_toArray, List.set_cons_zero, List.set_cons_succ]
  refine wpAnyH_take (i := 1) (v := .pointer (some ⟨r, 0, none⟩)) rfl (by kernel_rfl) (by kernel_rfl) (by kernel_rfl) (fun _ _ _ h => h) (Or.inl ⟨by kernel_rfl, ?_⟩) hHeld ?_
  · intro w' hSw
    obtain ⟨hc0, hc1, hz1⟩ := hSw
    first | (go_simp; done) | (go_simp; with_reducible rfl) | (go_simp; rw [IntKind.wrap_i64]; omega) | (go_simp; omega)
  simp only [Act.put, List.setIfInBounds_toArray, List.set_cons_zero, List.set_cons_succ]
  refine wpAnyH_take (i := 2) (v := .pointer (some ⟨gt, 0, none⟩)) rfl (by kernel_rfl) (by kernel_rfl) (by kernel_rfl) (fun _ _ _ h => h) (Or.inl ⟨by kernel_rfl, ?_⟩) hHeld ?_
  · intro w' hSw
    obtain ⟨hc0, hc1, hz1⟩ := hSw
    first | (go_simp; done) | (go_simp; with_reducible rfl) | (go_simp; rw [IntKind.wrap_i64]; omega) | (go_simp; omega)
  simp only [Act.put, List.setIfInBounds_toArray, List.set_cons_zero, List.set_cons_succ]
  refine wpAnyH_take (i := 3) (v := .int .i64 x) rfl (by kernel_rfl) (by kernel_rfl) (by kernel_rfl) (fun _ _ _ h => h) (Or.inl ⟨by kernel_rfl, ?_⟩) hHeld ?_
  · intro w' hSw
    obtain ⟨hc0, hc1, hz1⟩ := hSw
    first | (go_simp; done) | (go_simp; with_reducible rfl) | (go_simp; rw [IntKind.wrap_i64]; omega) | (go_simp; omega)
  simp only [Act.put, List.setIfInBounds_toArray, List.set_cons_zero, List.set_cons_succ]
  refine wpAnyH_ready (rs := [4]) (by kernel_rfl) (by simp) ?_
  refine (AllReadyH.cons rfl (fun KK hK => ?_) AllReadyH.nil)
  go_simp
  go_wp2_with (first | (go_at_call 43; refine (set_any x HR).mono ?_; rintro e v0_1 ⟨t5, m5, c5, q5, U5, rfl, m513, L5, R9, b9⟩))
  have zr9 : r < v0.heap.size := HR.out.1
  have zt9 : gt < v0.heap.size := HF.out.1
  have HL5 : Hid (Lst (gt + 1) 2 1 v0_1 (.slice t5 m5 c5) m5 U5) := L5.lowL (by omega)
  replace HS : Hid (Below w.heap.size w v0_1) := HS.out.trans (b9.below zwr HS.out.size)
  replace HQ : Hid (Blk v0_1 gq [.int .i64 0, .slice none 0 0]) := HQ.out.beside b9 (by omega)
  replace HG : Hid (GtL (r + 1) v0_1 (.slice t m cap) m) := HG.out.beside b9 (by omega)
  replace HF : Hid (Blk v0_1 gt [.int .i64 x, .slice t m cap]) := HF.out.beside b9 (by omega)
  replace HR : Hid (Rd v0_1 r s n c q5) := R9
  clear R9 b9 zr9 zt9 L5
  refine hK.out _ _ (⟨HF.out.2.2 0 _ rfl, HF.out.2.2 1 _ rfl, HF.out.1⟩) (fun hHeld => ?_)
  clear hK KK
  refine wpAnyH_ready (rs := [5]) (by kernel_rfl) (by simp) ?_
  refine (AllReadyH.cons rfl (fun KK hK => ?_) AllReadyH.nil)
  have e0 := HQ.out.2.2 0 _ rfl
  have e1 := HQ.out.2.2 1 _ rfl
  have ef0 := HQ.out.2.1 0
  have ef1 := HQ.out.2.1 1
  have ez := HQ.out.1
  have hst := store_slT
  go_simp
  obtain ⟨v0_2, hv_⟩ : ∃ z, z = (v0_1.setCell ⟨gq, 0, none⟩ (.int .i64 x)).setCell ⟨gq, 1, none⟩ (.slice t m cap) := ⟨_, rfl⟩
  rw [← hv_]
  have bs_ : Beside gq v0_1 v0_2 := by rw [hv_]; exact (Beside.setCell gq _ 0 _).trans (Beside.setCell gq _ 1 _)
  have HQ8 : Hid (Blk v0_2 gq [.int .i64 x, .slice t m cap]) := by show Blk _ _ _; rw [hv_]; exact (HQ.out.set 0 _).set 1 _
  have HF8 : Hid (Blk v0_2 gt [.int .i64 x, .slice t m cap]) := HF.out.beside bs_ (by omega)
  have HG8 : Hid (GtL (r + 1) v0_2 (.slice t m cap) m) := HG.out.beside bs_ (by omega)
  have HL8 : Hid (Lst (gt + 1) 2 1 v0_2 (.slice t5 m5 c5) m5 U5) := HL5.out.beside bs_ (by omega)
  have HS8 : Hid (Below w.heap.size w v0_2) := HS.out.trans (bs_.below HGQ.out HS.out.size)
  clear hv_ bs_ e0 e1 ef0 ef1 ez hst
  refine hK.out _ _ (⟨HF8.out.2.2 0 _ rfl, HF8.out.2.2 1 _ rfl, HF8.out.1⟩) (fun hHeld => ?_)
  clear hK KK
  refine wpAnyH_ready (rs := [6]) (by kernel_rfl) (by simp) ?_
  refine AllReadyH.cons rfl (fun KK hK => ?_) AllReadyH.nil
  go_simp
  refine hK.out _ _ hHeld (fun hHeld => ?_)
  clear hK KK
  refine wpAnyH_done (by kernel_rfl) ?_ _
  clear hHeld
  obtain ⟨X, K, V, hrow, _⟩ := HG8.out.row
  obtain ⟨t', c', e', hO⟩ := HL8.out.own
  cases e'
  rw [Nat.mul_one] at hO
  have HP : Hid (RowGat v0_2 t m X K V ∧ RowI v0_2 t5 m5 U5 ∧ Below w.heap.size w v0_2) := ⟨hrow, hO.row, HS8.out⟩
  have e0 := HQ8.out.2.2 0 _ rfl
  have e1 := HQ8.out.2.2 1 _ rfl
  have ez := HQ8.out.1
  clear hrow hO
  go_wp2
  refine bodyPost_ret (v := .tuple #[.agg #[.int .i64 x, .slice t m cap], .slice t5 m5 c5]) (by simp [results, Try.results16, go_sem, e0, e1]) rfl ?_
  exact ⟨x, t, m, cap, X, K, V, t5, m5, c5, U5, rfl, m513, HP.out.1, HP.out.2.1, HP.out.2.2⟩

open Go.ChangeShapes Go.WideShapes Go.ChangeAt Go.RowKit
set_option linter.unusedVariables false
set_option linter.unusedSimpArgs false

def catU (U : Nat → Int) (m : Nat) (X : Nat → Int) (j : Nat) : Int := if j < m then U j else X (j - m)
theorem vals_catN (U : Nat → Int) (m : Nat) (X : Nat → Int) : ∀ n, vals (catU U m X) (m + n) = vals U m ++ vals X n
  | 0 => by
    rw [Nat.add_zero]
    show _ = vals U m ++ []
    rw [List.append_nil]
    unfold vals
    refine List.map_congr_left fun j hj => ?_
    have : j < m := by simpa using hj
    unfold catU
    rw [if_pos this]
  | n + 1 => by
    rw [← Nat.add_assoc, vals_succ, vals_catN U m X n, vals_succ, List.append_assoc]
    have e : catU U m X (m + n) = X n := by unfold catU; rw [if_neg (by omega), show m + n - m = n by omega]
    rw [e]
theorem vals_cat (U : Nat → Int) (k n M : Nat) (X : Nat → Int) : vals (catU U (k * M) X) ((k + n) * M) = vals U (k * M) ++ vals X (n * M) := by
  rw [Nat.add_mul, vals_catN]
theorem row_addL {w : World} {ad : Addr} {n : Nat} {V : Nat → Int} (R : RowI w (some ad) n V) : ∀ j u, (vals V n)[j]? = some u → w.cell? (ad.add j) = some u := fun j u hu => by
  have hj : j < n := by
    rcases Nat.lt_or_ge j n with h | h
    · exact h
    · rw [List.getElem?_eq_none (by rw [vals_length]; exact h)] at hu; cases hu
  rw [vals_at V hj] at hu
  cases hu
  obtain ⟨b, o, e, _, hc⟩ := R j hj
  cases e
  have : (⟨b, o, none⟩ : Addr).add j = ⟨b, o + j, none⟩ := by
    unfold Addr.add
    split
    · rename_i h; subst h; rfl
    · rfl
  rw [this]
  exact hc

open Go.ChangeShapes Go.WideShapes Go.ChangeAt Go.RowKit
set_option linter.unusedVariables false
set_option linter.unusedSimpArgs false

theorem run_append_none_any {P : Program} {w : World} (base : Nat) (t ty e : TypeId) (i : TypeInfo) (size : Nat) (ht : P.underlying t = some (.slice e)) (hi : P.info? e = some i)
    (v : Value) (n c : Nat) (xs : List Value) (hown : w.ownsRow base e size v n xs) :
    (Builtin.append_ #[t, t] ty #[v, .slice none 0 c]).run P w = .ok v w := by
  rcases hown.2 with ⟨rfl, rfl⟩ | ⟨g, cap, cur, rfl, _, _, hnc, _⟩
  · simp [Builtin.append_, run_underlying ht, sizeOf, typeInfo, hi, Builtin.lenOf, Builtin.firstCells]
  · simp [Builtin.append_, run_underlying ht, sizeOf, typeInfo, hi, Builtin.lenOf, Builtin.firstCells, hnc, storeCells]
theorem join_run {W : World} (ty : TypeId) (base : Nat) (v : Value) (k : Nat) (U : Nat → Int) (sx : Option Addr) (n c : Nat) (X : Nat → Int) (hown : Lst base 2 1 W v k U) (hk : k ≤ 100000) (hn : n ≤ 100000) (hb : base ≤ W.heap.size) (R : RowI W sx n X) : ∃ v' w', (Builtin.append_ #[30, 30] ty #[v, .slice sx n c]).run Try.prog W = .ok v' w' ∧ Lst base 2 1 w' v' (k + n) (catU U (k * 1) X) ∧ Below base W w' := by
  obtain ⟨i0, hi, hz0, hz1, hz2⟩ := info_parts info_i64L
  cases sx with
  | some ad =>
    obtain ⟨v', w', h1, h2, h3, _⟩ := run_append_own (P := Try.prog) (w := W) base 30 ty 2 i0 (.int .i64 0) 1 8 Try.underlying30 hi hz0 hz1 hz2 rfl (by decide) v k (vals U (k * 1)) hown ad n c (vals X (n * 1)) (by rw [vals_length]) (row_addL (by rw [Nat.mul_one]; exact R)) (by
      intro u hu
      simp only [vals, List.mem_map] at hu
      obtain ⟨j, _, rfl⟩ := hu
      rfl) (by unfold maxLen; omega) (by omega) hb
    refine ⟨v', w', h1, ?_, grown_below h3 hb (own_block hown)⟩
    show World.ownsRow _ _ _ _ _ _ _
    rw [vals_cat]
    exact h2
  | none =>
    have e : n = 0 := by
      rcases Nat.eq_zero_or_pos n with q | q
      · exact q
      · obtain ⟨b, o, e, _⟩ := R 0 (by omega)
        cases e
    subst e
    refine ⟨v, W, run_append_none_any (P := Try.prog) (w := W) base 30 ty 2 i0 1 Try.underlying30 hi v k c _ hown, ?_, Below.refl _ _⟩
    show World.ownsRow _ _ _ _ _ _ _
    rw [vals_cat]
    simpa [Lst, vals] using hown
theorem join_int {ops : Array Oper} {rest : List Oper} {o : Oper} {a : Act} {Q : Exit → Act → World → Prop} {W : World} (base : Nat) (v : Value) (k : Nat) (U : Nat → Int) (s z : Operand) (sx : Option Addr) (n c : Nat) (X : Nat → Int) (hgd : o.guard = none)
    (ho : o.op = .call { callee := .builtin .append, args := #[s, z], argTypes := #[30, 30] }) (hs : a.eval s = v) (hx : a.eval z = .slice sx n c) (hown : Lst base 2 1 W v k U) (hk : k ≤ 100000) (hn : n ≤ 100000) (hb : base ≤ W.heap.size) (R : RowI W sx n X)
    (h : ∀ v' w', Lst base 2 1 w' v' (k + n) (catU U (k * 1) X) → Below base W w' → wpList Try.prog ops Q rest (a.put o.dst v') w') :
    wpList Try.prog ops Q (o :: rest) a W := by
  obtain ⟨v', w', hrun, h1, h2⟩ := join_run o.type base v k U sx n c X hown hk hn hb R
  refine wpList_plain hgd fun K hK => ?_
  unfold Oper.wp
  simp [execOp, ho, resolve, invoke, builtin, hs, hx, hrun, Result.andThen]
  exact hK _ _ (h v' w' h1 h2)
theorem join_op {o : Oper} {a : Act} {K : Act → World → Prop} {Q : Exit → Act → World → Prop} {W : World} (base : Nat) (v : Value) (k : Nat) (U : Nat → Int) (s z : Operand) (sx : Option Addr) (n c : Nat) (X : Nat → Int)
    (ho : o.op = .call { callee := .builtin .append, args := #[s, z], argTypes := #[30, 30] }) (hs : a.eval s = v) (hx : a.eval z = .slice sx n c) (hown : Lst base 2 1 W v k U) (hk : k ≤ 100000) (hn : n ≤ 100000) (hb : base ≤ W.heap.size) (R : RowI W sx n X)
    (h : ∀ v' w', Lst base 2 1 w' v' (k + n) (catU U (k * 1) X) → Below base W w' → K (a.put o.dst v') w') :
    o.wp Try.prog a W K Q := by
  obtain ⟨v', w', hrun, h1, h2⟩ := join_run o.type base v k U sx n c X hown hk hn hb R
  unfold Oper.wp
  simp [execOp, ho, resolve, invoke, builtin, hs, hx, hrun, Result.andThen]
  exact h v' w' h1 h2
set_option maxRecDepth 20000 in
set_option maxHeartbeats 2000000 in
theorem hasL_any (s : Option Addr) (k e : Nat) (U : Nat → Int) (x : Int) (w : World) (hk : (k : Int) ≤ 1048576) (HU : Hid (RowI w s k U)) :
    Calls Try.prog 14 #[.slice s k e, .int .i64 x] w fun e w' => e = .returned (.bool (hasW U k x)) ∧ w' = w := by
  go_enter Try.func14, Try.ntmps14
  go_wp2_with fail
  go_loopw [5] (fun i wr => ∃ j : Nat, j ≤ k ∧ i = .int .i64 j ∧ Hid (∀ r, r < j → U r ≠ x) ∧ wr = w) (fun i _ => k - (intOf i).toNat)
  case atStart => exact ⟨0, Nat.zero_le _, rfl, fun r hr => by omega, rfl⟩
  case round =>
    obtain ⟨j, hj, rfl, HP, rfl⟩ := hrel
    by_cases h1 : j < k
    · obtain ⟨g, o, rfl, hg, c0⟩ := HU.out j h1
      have j1 : (j : Int) < (k : Int) := by omega
      by_cases e0 : U j = x
      · have HO : Hid (hasW U k x = true) := decide_eq_true ⟨j, h1, e0⟩
        obtain ⟨z, hz⟩ : ∃ z, U j = z := ⟨_, rfl⟩
        have e1 : (z == x) = true := by rw [← hz]; simpa using e0
        rw [hz] at c0
        clear e0 hz
        go_wp2
        go_ret
        exact ⟨ret_bool HO.out.symm, rfl⟩
      · have HN : Hid (∀ r, r < j + 1 → U r ≠ x) := fun r hr => by
          by_cases q : r = j
          · rw [q]; exact e0
          · exact HP.out r (by omega)
        obtain ⟨z, hz⟩ : ∃ z, U j = z := ⟨_, rfl⟩
        have e1 : (z == x) = false := by rw [← hz]; simpa using e0
        rw [hz] at c0
        clear e0 hz
        go_wp2
        go_roundw
        case rel => exact ⟨j + 1, by omega, by go_num, HN.out, by first | rfl | trivial⟩
        case measure => first | (simp [intOf]; done) | (simp [intOf]; omega)
    · obtain rfl : j = k := by omega
      have HO : Hid (hasW U j x = false) := decide_eq_false fun ⟨i, h, e⟩ => HP.out i h e
      go_wp2
      go_ret
      exact ⟨ret_bool HO.out.symm, rfl⟩

end Go.Proofs.Ytpaiajeigdifcaa
