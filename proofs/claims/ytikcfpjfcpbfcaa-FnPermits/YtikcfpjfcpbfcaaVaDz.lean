/-
What is proved: the draw of valves.
-/
import Derived.Test.YtikcfpjfcpbfcaaNdDz
import Derived.Deep.DeepCutAuto
import Derived.Deep.RegionHeldLaw
namespace Go.Proofs.Ytikcfpjfcpbfcaa
set_option maxRecDepth 40000
open Go.ChangeShapes Go.WideShapes Go.ChangeAt Go.RowKit
set_option linter.unusedVariables false
set_option linter.unusedSimpArgs false

def VaPost (r : Nat) (s : Option Addr) (n c : Nat) (w : World) (m : Nat) (e : Ending) (W : World) : Prop := ∃ (t : Option Addr) (k kc p : Nat) (U : Nat → Int), e = .returned (.slice t k kc) ∧ k ≤ m ∧ Lst w.heap.size 2 1 W (.slice t k kc) k U ∧ Rd W r s n c p ∧ Beside r w W
set_option maxRecDepth 20000 in
set_option maxHeartbeats 8000000 in
theorem valves_any {r : Nat} {s : Option Addr} {n c p : Nat} {w : World} {P : Int} {td : Option Addr} {nd kd : Nat} {ts : Option Addr} {ns ks : Nat} (hn : nd ≤ 70000) (h : Hid (Rd w r s n c p)) :
    Calls Try.prog 106 #[.pointer (some ⟨r, 0, none⟩), .agg #[.int .i64 P, .slice td nd kd, .slice ts ns ks]] w fun e w' => VaPost r s n c w nd e w' := by
  have HR : Hid (Rd w r s n c p) := h
  have zr : r < w.heap.size := h.out.1
  go_enter Try.func106, Try.ntmps106
  go_upto_region 1 with fail
  obtain ⟨wa, hwa⟩ : ∃ z, z = w.alloc (.cells #[.int .i64 P, .slice td nd kd, .slice ts ns ks] 41) := ⟨_, rfl⟩
  try rw [← hwa]
  obtain ⟨gn, hgn⟩ : ∃ z, z = w.heap.size := ⟨_, rfl⟩
  have ba : Below w.heap.size w wa := by rw [hwa]; exact below0 _ _
  have HN : Hid (Blk wa gn [.int .i64 P, .slice td nd kd, .slice ts ns ks]) := by rw [hwa, hgn]; exact Blk.new w #[.int .i64 P, .slice td nd kd, .slice ts ns ks] _
  replace HR : Hid (Rd wa r s n c p) := HR.out.below ba
  have HS : Hid (Beside r w wa) := Beside.of ba
  try rw [← hgn]
  have zgw : w.heap.size ≤ gn := by omega
  clear hwa ba hgn
  go_upto_region 2 with fail
  obtain ⟨y0, hw_⟩ : ∃ z, z = wa.alloc (.cells #[] 2) := ⟨_, rfl⟩
  try rw [← hw_]
  have b_ : Below wa.heap.size wa y0 := by rw [hw_]; exact below0 _ _
  obtain ⟨B, hB⟩ : ∃ z, z = wa.heap.size := ⟨_, rfl⟩
  have HL : Hid (Lst B 2 1 y0 (.slice (some ⟨B, 0, none⟩) 0 0) 0 (fun _ => 0)) := by show Lst _ _ _ _ _ _ _; rw [hw_, hB]; exact Lst.lit wa _ _ 2 1 _ (Nat.le_refl _)
  have zgB : gn < B := by have := HN.out.1; omega
  replace HR : Hid (Rd y0 r s n c p) := HR.out.below b_
  replace HS : Hid (Beside r w y0) := HS.out.later b_
  replace HN : Hid (Blk y0 gn [.int .i64 P, .slice td nd kd, .slice ts ns ks]) := HN.out.below b_
  have HZ : Hid (B ≤ y0.heap.size) := by show _ ≤ _; rw [hB]; exact b_.size
  have zB : r < B := by omega
  have zw : w.heap.size ≤ B := by omega
  try rw [← hB]
  clear hw_ b_ hB
  go_wp2_with fail
  go_loopw [5, 6] (fun v i wx => ∃ (k l p5 : Nat) (U : Nat → Int), k ≤ nd ∧ l ≤ k ∧ i = .int .i64 k ∧ Hid (Rd wx r s n c p5) ∧ Hid (Beside r w wx) ∧ Hid (Blk wx gn [.int .i64 P, .slice td nd kd, .slice ts ns ks]) ∧ Hid (B ≤ wx.heap.size) ∧ Hid (Lst B 2 1 wx v l U)) (fun _ i _ => nd - (intOf i).toNat)
  case atStart => exact ⟨0, 0, p, _, by omega, by omega, rfl, HR, HS, HN, HZ, HL⟩
  case round =>
    clear HR HS HN HZ HL
    obtain ⟨k, l, p5, U, hk, hl, rfl, HR, HS, HN, HZ, HL⟩ := hrel
    rename World => wa
    obtain ⟨tv, cv, ev⟩ := HL.out.form
    subst ev
    have c1 := HN.out.2.2 1 _ rfl
    have cz := HN.out.1
    by_cases hkn : k < nd
    case pos =>
      have ki : (k : Int) < (nd : Int) := by omega
      go_upto_region 5 with fail
      go_wp2_with fail
      clear c1 cz
      refine (once_any 2 (by omega) (by omega) HR).mono ?_
      rintro e y1 ⟨b, q6, rfl, R_, b_⟩
      have zr_ : r < wa.heap.size := HR.out.1
      replace HS : Hid (Beside r w y1) := HS.out.trans b_
      replace HZ : Hid (B ≤ y1.heap.size) := Nat.le_trans HZ.out b_.2.2.2.1
      replace HN : Hid (Blk y1 gn [.int .i64 P, .slice td nd kd, .slice ts ns ks]) := HN.out.beside b_ (by omega)
      replace HL : Hid (Lst B 2 1 y1 (.slice tv l cv) l U) := HL.out.beside b_ (by omega)
      replace HR : Hid (Rd y1 r s n c q6) := R_
      clear R_ b_ zr_
      cases b
      · go_wp2
        go_roundw
        case rel => exact ⟨k + 1, l, q6, U, by omega, by omega, by go_num, HR, HS, HN, HZ, HL⟩
        case measure => first | (simp [intOf]; done) | (simp [intOf]; omega)
      · have zy_ : B ≤ y1.heap.size := HZ.out
        go_wp2_with (at_builtin; refine list_i64L B (.slice tv l cv) l U (.tmp 17) (.tmp 19) (by rfl) (by rfl) (by rfl) (by rfl) HL.out (by omega) (by omega) ?_; intro g9 cap9 w9 l9 b9)
        have HR9 : Hid (Rd w9 r s n c q6) := Rd.below' HR.out (b9.mono (by omega))
        have HS9 : Hid (Beside r w w9) := HS.out.onB (b9.mono (by omega))
        have HN9 : Hid (Blk w9 gn [.int .i64 P, .slice td nd kd, .slice ts ns ks]) := HN.out.belowB b9 (by omega)
        have HZ9 : Hid (B ≤ w9.heap.size) := Nat.le_trans HZ.out b9.size
        have HL9 : Hid (Lst B 2 1 w9 (.slice (some ⟨g9, 0, none⟩) (l + 1) cap9) (l + 1) (putL U 1 l [(k : Int)])) := l9
        go_roundw
        case rel => exact ⟨k + 1, l + 1, q6, _, by omega, by omega, by go_num, HR9, HS9, HN9, HZ9, HL9⟩
        case measure => first | (simp [intOf]; done) | (simp [intOf]; omega)
    case neg =>
      have ki : ¬ (k : Int) < (nd : Int) := by omega
      have HP : Hid (Lst w.heap.size 2 1 wa (.slice tv l cv) l U ∧ Rd wa r s n c p5 ∧ Beside r w wa) := ⟨HL.out.lowN zw, HR.out, HS.out⟩
      go_wp2
      go_ret
      exact ⟨tv, l, cv, p5, U, rfl, by omega, HP.out.1, HP.out.2.1, HP.out.2.2⟩
end Go.Proofs.Ytikcfpjfcpbfcaa
