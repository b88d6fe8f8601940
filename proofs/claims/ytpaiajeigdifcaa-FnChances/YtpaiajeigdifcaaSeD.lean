/-
What is proved: a set that is drawn.
-/
import Derived.Test.YtpaiajeigdifcaaTrD
import Derived.Test.YtpaiajeigdifcaaRd3
namespace Go.Proofs.Ytpaiajeigdifcaa
set_option maxRecDepth 40000
open Go.ChangeShapes Go.WideShapes Go.ChangeAt Go.RowKit
set_option linter.unusedVariables false
set_option linter.unusedSimpArgs false

def SetPost (r : Nat) (s : Option Addr) (n c : Nat) (w : World) (e : Ending) (w' : World) : Prop := ∃ (t : Option Addr) (m cap p' : Nat) (U : Nat → Int), e = .returned (.slice t m cap) ∧ m ≤ 13 ∧ Lst w.heap.size 2 1 w' (.slice t m cap) m U ∧ Rd w' r s n c p' ∧ Beside r w w'
set_option maxRecDepth 20000 in
set_option maxHeartbeats 8000000 in
theorem set_any {r : Nat} {s : Option Addr} {n c p : Nat} {w : World} (x : Int) (h : Hid (Rd w r s n c p)) : Calls Try.prog 43 #[.pointer (some ⟨r, 0, none⟩), .int .i64 x] w fun e w' => SetPost r s n c w e w' := by
  have zr0 : r < w.heap.size := h.out.1
  have HR : Hid (Rd w r s n c p) := h
  have HS : Hid (Beside r w w) := Beside.of (Below.refl _ _)
  clear h
  go_enter Try.func43, Try.ntmps43
  go_upto_region 2 with fail
  obtain ⟨y0, hw_⟩ : ∃ z, z = w.alloc (.cells #[] 2) := ⟨_, rfl⟩
  rw [← hw_]
  have b_ : Below w.heap.size w y0 := by rw [hw_]; exact below0 _ _
  obtain ⟨B, hB⟩ : ∃ z, z = w.heap.size := ⟨_, rfl⟩
  have HBQ : Hid (B = w.heap.size) := hB
  have HL : Hid (Lst B 2 1 y0 (.slice (some ⟨B, 0, none⟩) 0 0) 0 (fun _ => 0)) := by show Lst _ _ _ _ _ _ _; rw [hw_, hB]; exact Lst.lit w _ _ 2 1 _ (Nat.le_refl _)
  replace HR : Hid (Rd y0 r s n c p) := HR.out.below b_
  replace HS : Hid (Beside r w y0) := Beside.of b_
  have HZ : Hid (B ≤ y0.heap.size) := by show _ ≤ _; rw [hB]; exact b_.size
  have zB : r < B := by omega
  have zw : w.heap.size ≤ B := by omega
  try rw [← hB]
  clear hw_ b_ hB
  go_wp2_with fail
  go_loopw [5, 6] (fun v i wx => ∃ (k l p5 : Nat) (U : Nat → Int), k ≤ 12 ∧ l ≤ k ∧ i = .int .i64 k ∧ Hid (Rd wx r s n c p5) ∧ Hid (Beside r w wx) ∧ Hid (B ≤ wx.heap.size) ∧ Hid (Lst B 2 1 wx v l U)) (fun _ i _ => 12 - (intOf i).toNat)
  case atStart => exact ⟨0, 0, p, _, by omega, by omega, rfl, HR, HS, HZ, HL⟩
  case round =>
    clear HR HS HZ HL
    obtain ⟨k, l, p5, U, hk, hl, rfl, HR, HS, HZ, HL⟩ := hrel
    rename World => wa
    obtain ⟨tv, cv, ev⟩ := HL.out.form
    subst ev
    rcases (show ((k : Int) < x ∧ (k : Int) < 12) ∨ (decide ((k : Int) < x) = true ∧ decide ((k : Int) < 12) = false) ∨ decide ((k : Int) < x) = false from by
      by_cases e : (k : Int) < x
      · by_cases e2 : (k : Int) < 12
        · exact Or.inl ⟨e, e2⟩
        · exact Or.inr (Or.inl ⟨decide_eq_true e, decide_eq_false e2⟩)
      · exact Or.inr (Or.inr (decide_eq_false e))) with ⟨c1, c2⟩ | ⟨c1, c2⟩ | c1
    case inl =>
      go_upto_region 5 with fail
      go_wp2_with fail
      refine (once_any 2 (by omega) (by omega) HR).mono ?_
      rintro e y1 ⟨b, q6, rfl, R_, b_⟩
      have zr_ : r < wa.heap.size := HR.out.1
      replace HS : Hid (Beside r w y1) := HS.out.trans b_
      replace HZ : Hid (B ≤ y1.heap.size) := Nat.le_trans HZ.out b_.2.2.2.1
      replace HL : Hid (Lst B 2 1 y1 (.slice tv l cv) l U) := HL.out.beside b_ (by omega)
      replace HR : Hid (Rd y1 r s n c q6) := R_
      clear R_ b_ zr_
      cases b
      · go_wp2
        go_roundw
        case rel => exact ⟨k + 1, l, q6, U, by omega, by omega, by go_num, HR, HS, HZ, HL⟩
        case measure => first | (simp [intOf]; done) | (simp [intOf]; omega)
      · have zy_ : B ≤ y1.heap.size := HZ.out
        go_wp2_with (at_builtin; refine list_i64L B (.slice tv l cv) l U (.tmp 19) (.tmp 21) (by rfl) (by rfl) (by rfl) (by rfl) HL.out (by omega) (by omega) ?_; intro g9 cap9 w9 l9 b9)
        have HR9 : Hid (Rd w9 r s n c q6) := Rd.below' HR.out (b9.mono (by omega))
        have HS9 : Hid (Beside r w w9) := HS.out.onB (b9.mono (by omega))
        have HZ9 : Hid (B ≤ w9.heap.size) := Nat.le_trans HZ.out b9.size
        have HL9 : Hid (Lst B 2 1 w9 (.slice (some ⟨g9, 0, none⟩) (l + 1) cap9) (l + 1) (putL U 1 l [(k : Int)])) := l9
        go_roundw
        case rel => exact ⟨k + 1, l + 1, q6, _, by omega, by omega, by go_num, HR9, HS9, HZ9, HL9⟩
        case measure => first | (simp [intOf]; done) | (simp [intOf]; omega)
    all_goals
      go_upto_region 7 with fail
      go_wp2_with fail
      refine (once_any 20 (by omega) (by omega) HR).mono ?_
      rintro e y2 ⟨b, q6, rfl, R_, b_⟩
      have zr_ : r < wa.heap.size := HR.out.1
      replace HS : Hid (Beside r w y2) := HS.out.trans b_
      replace HZ : Hid (B ≤ y2.heap.size) := Nat.le_trans HZ.out b_.2.2.2.1
      replace HL : Hid (Lst B 2 1 y2 (.slice tv l cv) l U) := HL.out.beside b_ (by omega)
      replace HR : Hid (Rd y2 r s n c q6) := R_
      clear R_ b_ zr_
      cases b
      case false =>
        have HP : Hid (Lst w.heap.size 2 1 y2 (.slice tv l cv) l U ∧ Rd y2 r s n c q6 ∧ Beside r w y2) := ⟨HL.out.lowL zw, HR.out, HS.out⟩
        go_wp2
        go_ret
        exact ⟨tv, l, cv, q6, U, rfl, by omega, HP.out.1, HP.out.2.1, HP.out.2.2⟩
      case true =>
        go_upto_region 8 with fail
        go_wp2_with fail
        refine (number_any HR).mono ?_
        rintro e y3 ⟨nx, q7, rfl, nwf, R_, b_⟩
        have zr_ : r < y2.heap.size := HR.out.1
        replace HS : Hid (Beside r w y3) := HS.out.trans b_
        replace HZ : Hid (B ≤ y3.heap.size) := Nat.le_trans HZ.out b_.2.2.2.1
        replace HL : Hid (Lst B 2 1 y3 (.slice tv l cv) l U) := HL.out.beside b_ (by omega)
        replace HR : Hid (Rd y3 r s n c q7) := R_
        clear R_ b_ zr_
        have zy_ : B ≤ y3.heap.size := HZ.out
        go_wp2_with (at_builtin; refine list_i64L B (.slice tv l cv) l U (.tmp 25) (.tmp 28) (by rfl) (by rfl) (by rfl) (by rfl) HL.out (by omega) (by omega) ?_; intro g9 cap9 w9 l9 b9)
        have HP : Hid (Lst w.heap.size 2 1 w9 (.slice (some ⟨g9, 0, none⟩) (l + 1) cap9) (l + 1) (putL U 1 l [nx]) ∧ Rd w9 r s n c q7 ∧ Beside r w w9) := ⟨Lst.lowL l9 zw, Rd.below' HR.out (b9.mono (by omega)), HS.out.onB (b9.mono (by omega))⟩
        clear l9 b9
        go_ret
        exact ⟨_, l + 1, cap9, q7, _, rfl, by omega, HP.out.1, HP.out.2.1, HP.out.2.2⟩
end Go.Proofs.Ytpaiajeigdifcaa
