/-
What is proved: a tree that is drawn: any numbers, at most 21 gates with 1 to 12 ins each.
-/
import Derived.Test.YtpaiajeigdifcaaGt
import Derived.Test.YtpaiajeigdifcaaTn
import Derived.Test.YtpaiajeigdifcaaRdC
import Derived.Deep.DeepCutAuto
import Derived.RegionTactic
import Derived.Deep.RegionHeldLaw
import Derived.BigQuiet
namespace Go.Proofs.Ytpaiajeigdifcaa
set_option maxRecDepth 40000
open Go.ChangeShapes Go.WideShapes Go.ChangeAt Go.RowKit
set_option linter.unusedVariables false
set_option linter.unusedSimpArgs false

theorem news_oneG {W : World} {lb : Nat} {a : Value} (h0 : W.cell? ⟨lb, 0, none⟩ = some a) : ∀ j u, [a][j]? = some u → W.cell? ((⟨lb, 0, none⟩ : Addr).add j) = some u := fun j u hu => by
  cases j with
  | zero => cases hu; exact h0
  | succ j => simp at hu
theorem news_twoG {W : World} {lb : Nat} {a b : Value} (h0 : W.cell? ⟨lb, 0, none⟩ = some a) (h1 : W.cell? ⟨lb, 1, none⟩ = some b) : ∀ j u, [a, b][j]? = some u → W.cell? ((⟨lb, 0, none⟩ : Addr).add j) = some u := fun j u hu => by
  match j with
  | 0 => cases hu; exact h0
  | 1 => cases hu; exact h1
  | j + 2 => simp at hu
def TrePost (r : Nat) (s : Option Addr) (n c : Nat) (w : World) (e : Ending) (w' : World) : Prop := ∃ (x : Int) (t : Option Addr) (m cap p' : Nat), e = .returned (.agg #[.int .i64 x, .slice t m cap]) ∧ m ≤ 21 ∧ (Lit.int .i64 x).wf = true ∧ GtL w.heap.size w' (.slice t m cap) m ∧ Rd w' r s n c p' ∧ Beside r w w'
set_option maxRecDepth 20000 in
set_option maxHeartbeats 16000000 in
theorem tree_any {r : Nat} {s : Option Addr} {n c p : Nat} {w : World} (h : Hid (Rd w r s n c p)) : Calls Try.prog 41 #[.pointer (some ⟨r, 0, none⟩)] w fun e w' => TrePost r s n c w e w' := by
  have zr0 : r < w.heap.size := h.out.1
  have HR : Hid (Rd w r s n c p) := h
  have HS : Hid (Beside r w w) := Beside.of (Below.refl _ _)
  clear h
  go_enter Try.func41, Try.ntmps41
  go_upto_region 1 with fail
  obtain ⟨y0, hw_⟩ : ∃ z, z = w.alloc (.cells #[.int .i64 0, .slice none 0 0] 26) := ⟨_, rfl⟩
  rw [← hw_]
  have b_ : Below w.heap.size w y0 := by rw [hw_]; exact below0 _ _
  obtain ⟨gq, hgq⟩ : ∃ z, z = w.heap.size := ⟨_, rfl⟩
  have HQ : Hid (Blk y0 gq [.int .i64 0, .slice none 0 0]) := by show Blk _ _ _; rw [hw_, hgq]; exact Blk.new w #[.int .i64 0, .slice none 0 0] 26
  replace HR : Hid (Rd y0 r s n c p) := HR.out.below b_
  replace HS : Hid (Beside r w y0) := Beside.of b_
  have HGQ : Hid (gq = w.heap.size) := hgq
  have zq0 : r < gq := by omega
  try rw [← hgq]
  clear hw_ b_ hgq
  have cr : y0.cell? ⟨r, 0, none⟩ = some (.slice s n c) := HR.out.2.2.1
  have n9 : (n : Int) ≤ 1048576 := by have := HR.out.2.2.2.2.2.1; omega
  obtain ⟨q, hq⟩ : ∃ q : Nat, (n : Int) / 3 = (q : Int) := ⟨n / 3, by omega⟩
  have q9 : (q : Int) ≤ 349526 := by omega
  obtain ⟨mn, hmn⟩ : ∃ z : Int, (if 1 + (q : Int) < 7 then 1 + (q : Int) else 7) = z := ⟨_, rfl⟩
  have mn0 : 1 ≤ mn ∧ mn ≤ 7 := by rw [← hmn]; split <;> omega
  go_wp2_with fail
  all_goals
    refine (below_any _ HR).mono ?_
    rintro e y1 ⟨xx, q1, rfl, xx0, -, xx2, R_, b_⟩
    have zr_ : r < y0.heap.size := HR.out.1
    replace HS : Hid (Beside r w y1) := HS.out.trans b_
    replace HQ : Hid (Blk y1 gq [.int .i64 0, .slice none 0 0]) := HQ.out.beside b_ (by omega)
    replace HR : Hid (Rd y1 r s n c q1) := R_
    clear R_ b_ zr_
    have xx7 : xx ≤ 6 := by omega
    obtain ⟨x, hx⟩ : ∃ x : Int, 1 + xx = x := ⟨_, rfl⟩
    have x1 : 1 ≤ x := by omega
    have x7 : x ≤ 7 := by omega
    go_upto_region 2 with fail
    try rw [hx]
    clear hx xx0 xx2 xx7 cr hq q9 hmn mn0 n9
    obtain ⟨y, hw_⟩ : ∃ z, z = y1.alloc (.cells #[.int .i64 x, .slice none 0 0] 26) := ⟨_, rfl⟩
    rw [← hw_]
    have b_ : Below y1.heap.size y1 y := by rw [hw_]; exact below0 _ _
    obtain ⟨gt, hgt⟩ : ∃ z, z = y1.heap.size := ⟨_, rfl⟩
    have HF : Hid (Blk y gt [.int .i64 x, .slice none 0 0]) := by show Blk _ _ _; rw [hw_, hgt]; exact Blk.new y1 #[.int .i64 x, .slice none 0 0] 26
    have zt0 : gq < gt := by rw [hgt]; exact HQ.out.1
    replace HR : Hid (Rd y r s n c q1) := HR.out.below b_
    replace HS : Hid (Beside r w y) := HS.out.trans (Beside.of b_)
    replace HQ : Hid (Blk y gq [.int .i64 0, .slice none 0 0]) := HQ.out.below b_
    try rw [← hgt]
    clear hw_ b_ hgt
    have cr : y.cell? ⟨r, 0, none⟩ = some (.slice s n c) := HR.out.2.2.1
    have n9 : (n : Int) ≤ 1048576 := by have := HR.out.2.2.2.2.2.1; omega
    obtain ⟨q, hq⟩ : ∃ q : Nat, (n : Int) / 5 = (q : Int) := ⟨n / 5, by omega⟩
    have q9 : (q : Int) ≤ 209716 := by omega
    obtain ⟨mn, hmn⟩ : ∃ z : Int, (if 1 + (q : Int) < 6 then 1 + (q : Int) else 6) = z := ⟨_, rfl⟩
    have mn0 : 1 ≤ mn ∧ mn ≤ 6 := by rw [← hmn]; split <;> omega
    go_wp2_with fail
    all_goals
      refine (below_any _ HR).mono ?_
      rintro e y2 ⟨nn, q2, rfl, nn0, -, nn2, R_, b_⟩
      have zr_ : r < y.heap.size := HR.out.1
      replace HS : Hid (Beside r w y2) := HS.out.trans b_
      replace HQ : Hid (Blk y2 gq [.int .i64 0, .slice none 0 0]) := HQ.out.beside b_ (by omega)
      replace HF : Hid (Blk y2 gt [.int .i64 x, .slice none 0 0]) := HF.out.beside b_ (by omega)
      replace HR : Hid (Rd y2 r s n c q2) := R_
      clear R_ b_ zr_
      obtain ⟨N, hN⟩ : ∃ N : Int, 1 + nn = N := ⟨_, rfl⟩
      have N1 : 1 ≤ N := by omega
      have N6 : N ≤ 6 := by omega
      go_upto_region 3 with fail
      try rw [hN]
      clear hN nn0 nn2 cr hq q9 hmn mn0 n9
      obtain ⟨B, hB⟩ : ∃ z, z = y2.heap.size := ⟨_, rfl⟩
      have zB : gt < B := by rw [hB]; exact HF.out.1
      have HZ : Hid (B ≤ y2.heap.size) := by show B ≤ _; omega
      clear hB
      have HG : Hid (GtD B y2.heap.size y2 (.slice none 0 0) 0) := gt_nil _ _ _
      go_wp2_with fail
      go_loopw [4] (fun i wx => ∃ (k p5 : Nat) (v : Value), (k : Int) ≤ N ∧ i = .int .i64 (N - k) ∧ Hid (Rd wx r s n c p5) ∧ Hid (Beside r w wx) ∧ Hid (Blk wx gq [.int .i64 0, .slice none 0 0]) ∧ Hid (Blk wx gt [.int .i64 x, v]) ∧ Hid (B ≤ wx.heap.size) ∧ Hid (GtD B wx.heap.size wx v k)) (fun i _ => (intOf i).toNat)
      case atStart => exact ⟨0, q2, _, by omega, by simp, HR, HS, HQ, HF, HZ, HG⟩
      case round =>
        clear HR HS HQ HF HZ HG
        obtain ⟨k, p5, v, hk, rfl, HR, HS, HQ, HF, HZ, HG⟩ := hrel
        rename World => wa
        obtain ⟨tv, cv, ev⟩ := HG.out.list.val
        subst ev
        by_cases hlt : (k : Int) < N
        case pos =>
          have q0 : 0 < N - (k : Int) := by omega
          have k6 : k ≤ 6 := by omega
          obtain ⟨H, hH⟩ : ∃ z, z = wa.heap.size := ⟨_, rfl⟩
          rw [← hH] at HG
          have zH : B ≤ H := by have := HZ.out; omega
          go_upto_region 6 with fail
          obtain ⟨wb, hw_⟩ : ∃ z, z = wa.alloc (.cells #[.int .i64 0, .slice none 0 0] 87) := ⟨_, rfl⟩
          rw [← hw_]
          have b_ : Below wa.heap.size wa wb := by rw [hw_]; exact below0 _ _
          obtain ⟨gi, hgi⟩ : ∃ z, z = wa.heap.size := ⟨_, rfl⟩
          have HI : Hid (Blk wb gi [.int .i64 0, .slice none 0 0]) := by show Blk _ _ _; rw [hw_, hgi]; exact Blk.new wa #[.int .i64 0, .slice none 0 0] 87
          have zi0 : gt < gi := by rw [hgi]; exact HF.out.1
          have zi1 : H ≤ gi := by omega
          replace HR : Hid (Rd wb r s n c p5) := HR.out.below b_
          replace HS : Hid (Beside r w wb) := HS.out.trans (Beside.of b_)
          replace HQ : Hid (Blk wb gq [.int .i64 0, .slice none 0 0]) := HQ.out.below b_
          replace HF : Hid (Blk wb gt [.int .i64 x, .slice tv k cv]) := HF.out.below b_
          replace HZ : Hid (B ≤ wb.heap.size) := Nat.le_trans HZ.out b_.size
          replace HG : Hid (GtD B H wb (.slice tv k cv) k) := HG.out.below b_
          have HY : Hid (gi + 1 ≤ wb.heap.size) := by show _ ≤ _; rw [hw_, hgi]; simp
          have HL : Hid (Lst (gi + 1) 2 1 wb (.slice none 0 0) 0 (fun _ => 0)) := Lst.nilL _ _ _ _ _
          try rw [← hgi]
          clear hw_ b_ hgi hH
          have f0 := HF.out.2.2 0 _ rfl
          have f1 := HF.out.2.2 1 _ rfl
          have fz := HF.out.1
          obtain ⟨mo, hmo⟩ : ∃ mo : Int, x + (k : Int) = mo := ⟨_, rfl⟩
          have mo1 : 1 ≤ mo := by omega
          have mo13 : mo ≤ 13 := by omega
          go_upto_region 7 with fail
          try rw [hmo]
          clear hmo f0 f1 fz
          go_wp2_with fail
          go_loopw [7] (fun i wx => ∃ (j p6 l : Nat) (U : Nat → Int) (vI : Value), (j : Int) ≤ mo ∧ i = .int .i64 j ∧ l ≤ 6 ∧ ((j : Int) < mo ∨ 1 ≤ l) ∧ Hid (Rd wx r s n c p6) ∧ Hid (Beside r w wx) ∧ Hid (Blk wx gq [.int .i64 0, .slice none 0 0]) ∧ Hid (Blk wx gt [.int .i64 x, .slice tv k cv]) ∧ Hid (B ≤ wx.heap.size) ∧ Hid (GtD B H wx (.slice tv k cv) k) ∧ Hid (Blk wx gi [.int .i64 0, vI]) ∧ Hid (gi + 1 ≤ wx.heap.size) ∧ Hid (Lst (gi + 1) 2 1 wx vI l U)) (fun i _ => (mo - intOf i).toNat)
          case atStart => exact ⟨0, p5, 0, _, _, by omega, by simp, by omega, Or.inl (by omega), HR, HS, HQ, HF, HZ, HG, HI, HY, HL⟩
          case round =>
            clear HR HS HQ HF HZ HG HI HY HL
            obtain ⟨j, p6, l, U, vI, hj, rfl, l6, hjl, HR, HS, HQ, HF, HZ, HG, HI, HY, HL⟩ := hrel
            rename World => wc
            obtain ⟨ti, ci, ei⟩ := HL.out.form
            subst ei
            have i1 := HI.out.2.2 1 _ rfl
            have iz := HI.out.1
            by_cases hin : (j : Int) < mo ∧ l < 6
            case pos =>
              have a1 : (j : Int) < mo := hin.1
              have a2 : (l : Int) < 6 := by omega
              have a3 : decide ((j : Int) < mo) = true := decide_eq_true a1
              have a4 : decide ((l : Int) < 6) = true := decide_eq_true a2
              clear hin
              go_upto_region 10 with fail
              clear a3 a4 i1 iz
              go_wp2_with fail
              refine (once_any 2 (by omega) (by omega) HR).mono ?_
              rintro e y3 ⟨b, q6, rfl, R_, b_⟩
              have zr_ : r < wc.heap.size := HR.out.1
              replace HS : Hid (Beside r w y3) := HS.out.trans b_
              replace HQ : Hid (Blk y3 gq [.int .i64 0, .slice none 0 0]) := HQ.out.beside b_ (by omega)
              replace HF : Hid (Blk y3 gt [.int .i64 x, .slice tv k cv]) := HF.out.beside b_ (by omega)
              replace HZ : Hid (B ≤ y3.heap.size) := Nat.le_trans HZ.out b_.2.2.2.1
              replace HG : Hid (GtD B H y3 (.slice tv k cv) k) := HG.out.beside b_ (by omega)
              replace HI : Hid (Blk y3 gi [.int .i64 0, .slice ti l ci]) := HI.out.beside b_ (by omega)
              replace HY : Hid (gi + 1 ≤ y3.heap.size) := Nat.le_trans HY.out b_.2.2.2.1
              replace HL : Hid (Lst (gi + 1) 2 1 y3 (.slice ti l ci) l U) := HL.out.beside b_ (by omega)
              replace HR : Hid (Rd y3 r s n c q6) := R_
              clear R_ b_ zr_
              have i1 := HI.out.2.2 1 _ rfl
              have i1f := HI.out.2.1 1
              have iz := HI.out.1
              have hst := store_slT
              have HAP : Hid (b = true ∨ ((j : Int) = mo - 1 ∧ l = 0)) ∨ Hid (b = false ∧ ¬ ((j : Int) = mo - 1 ∧ l = 0)) := by
                by_cases e : b = true ∨ ((j : Int) = mo - 1 ∧ l = 0)
                · exact Or.inl e
                · refine Or.inr ⟨?_, fun q => e (Or.inr q)⟩
                  cases b
                  · rfl
                  · exact absurd (Or.inl rfl) e
              cases b
              case true =>
                clear HAP
                have zy_ : gi + 1 ≤ y3.heap.size := HY.out
                go_wp2_with (at_builtin; refine list_i64L (gi + 1) (.slice ti l ci) l U (.tmp 70) (.tmp 72) (by rfl) (by rfl) (by rfl) (by rfl) HL.out (by omega) (by omega) ?_; intro g9 cap9 w9 l9 b9; have zf9 : gi < y3.heap.size := HI.out.1; have i9 := (HI.out.belowB b9 (by omega)).2.2 1 _ rfl; have i9f := (HI.out.belowB b9 (by omega)).2.1 1; have iz9 := (HI.out.belowB b9 (by omega)).1)
                have bs_ : Beside gi w9 (w9.setCell ⟨gi, 1, none⟩ (.slice (some ⟨g9, 0, none⟩) (l + 1) cap9)) := Beside.setCell gi _ _ _
                have zw_ := HS.out.2.2.2.1
                have zgq := HGQ.out
                have HL9 : Hid (Lst (gi + 1) 2 1 (w9.setCell ⟨gi, 1, none⟩ (.slice (some ⟨g9, 0, none⟩) (l + 1) cap9)) (.slice (some ⟨g9, 0, none⟩) (l + 1) cap9) (l + 1) (putL U 1 l [(j : Int)])) := Lst.beside l9 bs_ (by omega)
                have HI9 : Hid (Blk (w9.setCell ⟨gi, 1, none⟩ (.slice (some ⟨g9, 0, none⟩) (l + 1) cap9)) gi [.int .i64 0, .slice (some ⟨g9, 0, none⟩) (l + 1) cap9]) := (HI.out.belowB b9 (by omega)).set 1 _
                have HQ9 : Hid (Blk (w9.setCell ⟨gi, 1, none⟩ (.slice (some ⟨g9, 0, none⟩) (l + 1) cap9)) gq [.int .i64 0, .slice none 0 0]) := (HQ.out.belowB b9 (by omega)).beside bs_ (by omega)
                have HF9 : Hid (Blk (w9.setCell ⟨gi, 1, none⟩ (.slice (some ⟨g9, 0, none⟩) (l + 1) cap9)) gt [.int .i64 x, .slice tv k cv]) := (HF.out.belowB b9 (by omega)).beside bs_ (by omega)
                have HZ9 : Hid (B ≤ (w9.setCell ⟨gi, 1, none⟩ (.slice (some ⟨g9, 0, none⟩) (l + 1) cap9)).heap.size) := Nat.le_trans HZ.out (Nat.le_trans b9.size bs_.2.2.2.1)
                have HY9 : Hid (gi + 1 ≤ (w9.setCell ⟨gi, 1, none⟩ (.slice (some ⟨g9, 0, none⟩) (l + 1) cap9)).heap.size) := Nat.le_trans HY.out (Nat.le_trans b9.size bs_.2.2.2.1)
                have HG9 : Hid (GtD B H (w9.setCell ⟨gi, 1, none⟩ (.slice (some ⟨g9, 0, none⟩) (l + 1) cap9)) (.slice tv k cv) k) := (HG.out.belowH b9 (by omega)).besideH bs_ zi1
                have HS9 : Hid (Beside r w (w9.setCell ⟨gi, 1, none⟩ (.slice (some ⟨g9, 0, none⟩) (l + 1) cap9))) := (HS.out.onB (b9.mono (by omega))).onB (bs_.below (by omega) (by have := b9.size; omega))
                have HR9 : Hid (Rd (w9.setCell ⟨gi, 1, none⟩ (.slice (some ⟨g9, 0, none⟩) (l + 1) cap9)) r s n c q6) := Rd.below' (Rd.below' HR.out (b9.mono (by omega))) (bs_.below (by omega) (by have := b9.size; omega))
                go_roundw
                case rel => exact ⟨j + 1, q6, l + 1, _, _, by omega, by go_num, by omega, Or.inr (by omega), HR9, HS9, HQ9, HF9, HZ9, HG9, HI9, HY9, HL9⟩
                case measure => simp [intOf]; omega
              case false =>
                by_cases e1 : (j : Int) = mo - 1
                case neg =>
                  have e2 : ((j : Int) == mo - 1) = false := by simpa using e1
                  clear HAP
                  go_wp2
                  go_roundw
                  case rel => exact ⟨j + 1, q6, l, _, _, by omega, by go_num, by omega, Or.inl (by omega), HR, HS, HQ, HF, HZ, HG, HI, HY, HL⟩
                  case measure => simp [intOf]; omega
                have e2 : ((j : Int) == mo - 1) = true := by simpa using e1
                by_cases e3 : l = 0
                case neg =>
                  have e4 : ((l : Int) == 0) = false := by simp; omega
                  clear HAP
                  go_wp2
                  go_roundw
                  case rel => exact ⟨j + 1, q6, l, _, _, by omega, by go_num, by omega, Or.inr (by omega), HR, HS, HQ, HF, HZ, HG, HI, HY, HL⟩
                  case measure => simp [intOf]; omega
                have e4 : ((l : Int) == 0) = true := by simp; omega
                clear HAP e1 e3
                have zy_ : gi + 1 ≤ y3.heap.size := HY.out
                go_wp2_with (at_builtin; refine list_i64L (gi + 1) (.slice ti l ci) l U (.tmp 70) (.tmp 72) (by rfl) (by rfl) (by rfl) (by rfl) HL.out (by omega) (by omega) ?_; intro g9 cap9 w9 l9 b9; have zf9 : gi < y3.heap.size := HI.out.1; have i9 := (HI.out.belowB b9 (by omega)).2.2 1 _ rfl; have i9f := (HI.out.belowB b9 (by omega)).2.1 1; have iz9 := (HI.out.belowB b9 (by omega)).1)
                have bs_ : Beside gi w9 (w9.setCell ⟨gi, 1, none⟩ (.slice (some ⟨g9, 0, none⟩) (l + 1) cap9)) := Beside.setCell gi _ _ _
                have zw_ := HS.out.2.2.2.1
                have zgq := HGQ.out
                have HL9 : Hid (Lst (gi + 1) 2 1 (w9.setCell ⟨gi, 1, none⟩ (.slice (some ⟨g9, 0, none⟩) (l + 1) cap9)) (.slice (some ⟨g9, 0, none⟩) (l + 1) cap9) (l + 1) (putL U 1 l [(j : Int)])) := Lst.beside l9 bs_ (by omega)
                have HI9 : Hid (Blk (w9.setCell ⟨gi, 1, none⟩ (.slice (some ⟨g9, 0, none⟩) (l + 1) cap9)) gi [.int .i64 0, .slice (some ⟨g9, 0, none⟩) (l + 1) cap9]) := (HI.out.belowB b9 (by omega)).set 1 _
                have HQ9 : Hid (Blk (w9.setCell ⟨gi, 1, none⟩ (.slice (some ⟨g9, 0, none⟩) (l + 1) cap9)) gq [.int .i64 0, .slice none 0 0]) := (HQ.out.belowB b9 (by omega)).beside bs_ (by omega)
                have HF9 : Hid (Blk (w9.setCell ⟨gi, 1, none⟩ (.slice (some ⟨g9, 0, none⟩) (l + 1) cap9)) gt [.int .i64 x, .slice tv k cv]) := (HF.out.belowB b9 (by omega)).beside bs_ (by omega)
                have HZ9 : Hid (B ≤ (w9.setCell ⟨gi, 1, none⟩ (.slice (some ⟨g9, 0, none⟩) (l + 1) cap9)).heap.size) := Nat.le_trans HZ.out (Nat.le_trans b9.size bs_.2.2.2.1)
                have HY9 : Hid (gi + 1 ≤ (w9.setCell ⟨gi, 1, none⟩ (.slice (some ⟨g9, 0, none⟩) (l + 1) cap9)).heap.size) := Nat.le_trans HY.out (Nat.le_trans b9.size bs_.2.2.2.1)
                have HG9 : Hid (GtD B H (w9.setCell ⟨gi, 1, none⟩ (.slice (some ⟨g9, 0, none⟩) (l + 1) cap9)) (.slice tv k cv) k) := (HG.out.belowH b9 (by omega)).besideH bs_ zi1
                have HS9 : Hid (Beside r w (w9.setCell ⟨gi, 1, none⟩ (.slice (some ⟨g9, 0, none⟩) (l + 1) cap9))) := (HS.out.onB (b9.mono (by omega))).onB (bs_.below (by omega) (by have := b9.size; omega))
                have HR9 : Hid (Rd (w9.setCell ⟨gi, 1, none⟩ (.slice (some ⟨g9, 0, none⟩) (l + 1) cap9)) r s n c q6) := Rd.below' (Rd.below' HR.out (b9.mono (by omega))) (bs_.below (by omega) (by have := b9.size; omega))
                go_roundw
                case rel => exact ⟨j + 1, q6, l + 1, _, _, by omega, by go_num, by omega, Or.inr (by omega), HR9, HS9, HQ9, HF9, HZ9, HG9, HI9, HY9, HL9⟩
                case measure => simp [intOf]; omega
            case neg =>
              have l1 : 1 ≤ l := by omega
              obtain ⟨g0, eg0, zg0⟩ : ∃ g0, (ti = some ⟨g0, 0, none⟩) ∧ gi + 1 ≤ g0 := by
                rcases HL.out.2 with ⟨_, e⟩ | ⟨g0, cap, cur, e, hb, _⟩
                · omega
                · cases e; exact ⟨g0, rfl, hb⟩
              subst eg0
              have hl1 : (1 : Int) ≤ (l : Int) := by omega
              rcases (show (decide ((j : Int) < mo) = true ∧ decide ((l : Int) < 6) = false) ∨ decide ((j : Int) < mo) = false from by
                by_cases e : (j : Int) < mo
                · exact Or.inl ⟨decide_eq_true e, decide_eq_false (by omega)⟩
                · exact Or.inr (decide_eq_false e)) with ⟨c1, c2⟩ | c1
              all_goals
                clear hin hjl
                go_upto_region 12 with fail
                clear i1 iz
                refine wp_region_held_drew (S := fun w' => w'.cell? ⟨gi, 1, none⟩ = some (.slice (some ⟨g0, 0, none⟩) l ci) ∧ gi < w'.heap.size) (by kernel_rfl) ?_ (fun hHeld => ?_)
                · exact ⟨HI.out.2.2 1 _ rfl, HI.out.1⟩
                obtain ⟨v0, hv0⟩ : ∃ z, z = wc.drew := ⟨_, rfl⟩
                try rw [← hv0] at hHeld
                rw [← hv0]
                have bv0 : Below wc.heap.size wc v0 := by rw [hv0]; exact Below.drew (Below.refl _ _)
                clear hv0
                replace HR : Hid (Rd v0 r s n c p6) := HR.out.below bv0
                replace HS : Hid (Beside r w v0) := HS.out.trans (Beside.of bv0)
                replace HQ : Hid (Blk v0 gq [.int .i64 0, .slice none 0 0]) := HQ.out.below bv0
                replace HF : Hid (Blk v0 gt [.int .i64 x, .slice tv k cv]) := HF.out.below bv0
                replace HZ : Hid (B ≤ v0.heap.size) := Nat.le_trans HZ.out bv0.size
                replace HG : Hid (GtD B H v0 (.slice tv k cv) k) := HG.out.below bv0
                replace HI : Hid (Blk v0 gi [.int .i64 0, .slice (some ⟨g0, 0, none⟩) l ci]) := HI.out.below bv0
                replace HY : Hid (gi + 1 ≤ v0.heap.size) := Nat.le_trans HY.out bv0.size
                replace HL : Hid (Lst (gi + 1) 2 1 v0 (.slice (some ⟨g0, 0, none⟩) l ci) l U) := HL.out.below bv0
                clear bv0
                refine wpAnyH_take (i := 0) (v := .pointer (some ⟨gi, 1, none⟩)) rfl (by kernel_rfl) (by kernel_rfl) (by kernel_rfl) (fun _ _ _ h => h) (Or.inl ⟨by kernel_rfl, ?_⟩) hHeld ?_
                · intro w' hSw
                  obtain ⟨hc, hz⟩ := hSw
                  first | (go_simp; done) | (go_simp; with_reducible rfl) | (go_simp; rw [IntKind.wrap_i64]; omega) | (go_simp; omega)
                simp only [Act.put, List.setIfInBounds_toArray, List.set_cons_zero, List.set_cons_succ]
                refine wpAnyH_take (i := 1) (v := .slice (some ⟨g0, 0, none⟩) l ci) rfl (by kernel_rfl) (by kernel_rfl) (by kernel_rfl) (fun _ _ _ h => h) (Or.inl ⟨by kernel_rfl, ?_⟩) hHeld ?_
                · intro w' hSw
                  obtain ⟨hc, hz⟩ := hSw
                  first | (go_simp; done) | (go_simp; with_reducible rfl) | (go_simp; rw [IntKind.wrap_i64]; omega) | (go_simp; omega)
                simp only [Act.put, List.setIfInBounds_toArray, List.set_cons_zero, List.set_cons_succ]
                refine wpAnyH_take (i := 2) (v := .int .i64 (l : Int)) rfl (by kernel_rfl) (by kernel_rfl) (by kernel_rfl) (fun _ _ _ h => h) (Or.inl ⟨by kernel_rfl, ?_⟩) hHeld ?_
                · intro w' hSw
                  obtain ⟨hc, hz⟩ := hSw
                  first | (go_simp; done) | (go_simp; with_reducible rfl) | (go_simp; rw [IntKind.wrap_i64]; omega) | (go_simp; omega)
                simp only [Act.put, List.setIfInBounds_toArray, List.set_cons_zero, List.set_cons_succ]
                refine wpAnyH_take (i := 3) (v := .pointer (some ⟨r, 0, none⟩)) rfl (by kernel_rfl) (by kernel_rfl) (by kernel_rfl) (fun _ _ _ h => h) (Or.inl ⟨by kernel_rfl, ?_⟩) hHeld ?_
                · intro w' hSw
                  obtain ⟨hc, hz⟩ := hSw
                  first | (go_simp; done) | (go_simp; with_reducible rfl) | (go_simp; rw [IntKind.wrap_i64]; omega) | (go_simp; omega)
                simp only [Act.put, List.setIfInBounds_toArray, List.set_cons_zero, List.set_cons_succ]
                refine wpAnyH_take (i := 4) (v := .pointer (some ⟨gi, 1, none⟩)) rfl (by kernel_rfl) (by kernel_rfl) (by kernel_rfl) (fun _ _ _ h => h) (Or.inl ⟨by kernel_rfl, ?_⟩) hHeld ?_
                · intro w' hSw
                  obtain ⟨hc, hz⟩ := hSw
                  first | (go_simp; done) | (go_simp; with_reducible rfl) | (go_simp; rw [IntKind.wrap_i64]; omega) | (go_simp; omega)
                simp only [Act.put, List.setIfInBounds_toArray, List.set_cons_zero, List.set_cons_succ]
                refine wpAnyH_take (i := 5) (v := .slice (some ⟨g0, 0, none⟩) l ci) rfl (by kernel_rfl) (by kernel_rfl) (by kernel_rfl) (fun _ _ _ h => h) (Or.inl ⟨by kernel_rfl, ?_⟩) hHeld ?_
                · intro w' hSw
                  obtain ⟨hc, hz⟩ := hSw
                  first | (go_simp; done) | (go_simp; with_reducible rfl) | (go_simp; rw [IntKind.wrap_i64]; omega) | (go_simp; omega)
                simp only [Act.put, List.setIfInBounds_toArray, List.set_cons_zero, List.set_cons_succ]
                refine wpAnyH_take (i := 6) (v := .int .i64 (l : Int)) rfl (by kernel_rfl) (by kernel_rfl) (by kernel_rfl) (fun _ _ _ h => h) (Or.inl ⟨by kernel_rfl, ?_⟩) hHeld ?_
                · intro w' hSw
                  obtain ⟨hc, hz⟩ := hSw
                  first | (go_simp; done) | (go_simp; with_reducible rfl) | (go_simp; rw [IntKind.wrap_i64]; omega) | (go_simp; omega)
                simp only [Act.put, List.setIfInBounds_toArray, List.set_cons_zero, List.set_cons_succ]
                refine wpAnyH_take (i := 9) (v := .pointer (some ⟨r, 0, none⟩)) rfl (by kernel_rfl) (by kernel_rfl) (by kernel_rfl) (fun _ _ _ h => h) (Or.inl ⟨by kernel_rfl, ?_⟩) hHeld ?_
                · intro w' hSw
                  obtain ⟨hc, hz⟩ := hSw
                  first | (go_simp; done) | (go_simp; with_reducible rfl) | (go_simp; rw [IntKind.wrap_i64]; omega) | (go_simp; omega)
                simp only [Act.put, List.setIfInBounds_toArray, List.set_cons_zero, List.set_cons_succ]
                refine wpAnyH_ready (rs := [7]) (by kernel_rfl) (by simp) ?_
                refine (AllReadyH.cons rfl (fun KK hK => ?_) AllReadyH.nil)
                go_simp
                go_wp2_with (first | (go_at_call 55; refine (near_any 1 (l : Int) (by omega) hl1 (by omega) HR).mono ?_; rintro e v0_1 ⟨nd, q8, rfl, nd1, nd2, R9, b9⟩))
                have zr9 : r < v0.heap.size := HR.out.1
                replace HS : Hid (Beside r w v0_1) := HS.out.trans b9
                replace HQ : Hid (Blk v0_1 gq [.int .i64 0, .slice none 0 0]) := HQ.out.beside b9 (by omega)
                replace HF : Hid (Blk v0_1 gt [.int .i64 x, .slice tv k cv]) := HF.out.beside b9 (by omega)
                replace HZ : Hid (B ≤ v0_1.heap.size) := Nat.le_trans HZ.out b9.2.2.2.1
                replace HG : Hid (GtD B H v0_1 (.slice tv k cv) k) := HG.out.beside b9 (by omega)
                replace HI : Hid (Blk v0_1 gi [.int .i64 0, .slice (some ⟨g0, 0, none⟩) l ci]) := HI.out.beside b9 (by omega)
                replace HY : Hid (gi + 1 ≤ v0_1.heap.size) := Nat.le_trans HY.out b9.2.2.2.1
                replace HL : Hid (Lst (gi + 1) 2 1 v0_1 (.slice (some ⟨g0, 0, none⟩) l ci) l U) := HL.out.beside b9 (by omega)
                replace HR : Hid (Rd v0_1 r s n c q8) := R9
                clear R9 b9 zr9
                refine hK.out _ _ (⟨HI.out.2.2 1 _ rfl, HI.out.1⟩) (fun hHeld => ?_)
                clear hK KK
                refine wpAnyH_ready (rs := [8, 10]) (by kernel_rfl) (by simp) ?_
                refine (AllReadyH.cons rfl (fun KK hK => ?_) (AllReadyH.cons rfl (fun KK hK => ?_) AllReadyH.nil))
                · go_simp
                  obtain ⟨v0_2, hv_⟩ : ∃ z, z = v0_1.alloc (.cells #[.int .i64 1, .int .i64 (l : Int), .int .i64 nd] 2) := ⟨_, rfl⟩
                  rw [← hv_]
                  obtain ⟨lb, hlb⟩ : ∃ z, z = v0_1.heap.size := ⟨_, rfl⟩
                  have zlb : r < lb := by rw [hlb]; exact HR.out.1
                  have b_ : Below v0_1.heap.size v0_1 v0_2 := by rw [hv_]; exact below0 _ _
                  have HB3 : Hid (Blk v0_2 lb [.int .i64 1, .int .i64 (l : Int), .int .i64 nd]) := by show Blk _ _ _; rw [hv_, hlb]; exact Blk.new v0_1 #[.int .i64 1, .int .i64 (l : Int), .int .i64 nd] 2
                  replace HR : Hid (Rd v0_2 r s n c q8) := HR.out.below b_
                  replace HS : Hid (Beside r w v0_2) := HS.out.trans (Beside.of b_)
                  replace HQ : Hid (Blk v0_2 gq [.int .i64 0, .slice none 0 0]) := HQ.out.below b_
                  replace HF : Hid (Blk v0_2 gt [.int .i64 x, .slice tv k cv]) := HF.out.below b_
                  replace HZ : Hid (B ≤ v0_2.heap.size) := Nat.le_trans HZ.out b_.size
                  replace HG : Hid (GtD B H v0_2 (.slice tv k cv) k) := HG.out.below b_
                  replace HI : Hid (Blk v0_2 gi [.int .i64 0, .slice (some ⟨g0, 0, none⟩) l ci]) := HI.out.below b_
                  replace HY : Hid (gi + 1 ≤ v0_2.heap.size) := Nat.le_trans HY.out b_.size
                  replace HL : Hid (Lst (gi + 1) 2 1 v0_2 (.slice (some ⟨g0, 0, none⟩) l ci) l U) := HL.out.below b_
                  try rw [← hlb]
                  clear hv_ hlb b_
                  refine hK.out _ _ (⟨HI.out.2.2 1 _ rfl, HI.out.1⟩) (fun hHeld => ?_)
                  clear hK KK
                  refine wpAnyH_ready (rs := [10]) (by kernel_rfl) (by simp) ?_
                  refine (AllReadyH.cons rfl (fun KK hK => ?_) AllReadyH.nil)
                  go_simp
                  go_wp2_with (first | (go_at_call 42; refine (below_any 3 HR).mono ?_; rintro e v0_3 ⟨jj, q9, rfl, jj0, -, jj2, R9, b9⟩))
                  have zr9 : r < v0_2.heap.size := HR.out.1
                  replace HS : Hid (Beside r w v0_3) := HS.out.trans b9
                  replace HQ : Hid (Blk v0_3 gq [.int .i64 0, .slice none 0 0]) := HQ.out.beside b9 (by omega)
                  replace HF : Hid (Blk v0_3 gt [.int .i64 x, .slice tv k cv]) := HF.out.beside b9 (by omega)
                  replace HZ : Hid (B ≤ v0_3.heap.size) := Nat.le_trans HZ.out b9.2.2.2.1
                  replace HG : Hid (GtD B H v0_3 (.slice tv k cv) k) := HG.out.beside b9 (by omega)
                  replace HI : Hid (Blk v0_3 gi [.int .i64 0, .slice (some ⟨g0, 0, none⟩) l ci]) := HI.out.beside b9 (by omega)
                  replace HY : Hid (gi + 1 ≤ v0_3.heap.size) := Nat.le_trans HY.out b9.2.2.2.1
                  replace HL : Hid (Lst (gi + 1) 2 1 v0_3 (.slice (some ⟨g0, 0, none⟩) l ci) l U) := HL.out.beside b9 (by omega)
                  replace HB3 : Hid (Blk v0_3 lb [.int .i64 1, .int .i64 (l : Int), .int .i64 nd]) := HB3.out.beside b9 (by omega)
                  replace HR : Hid (Rd v0_3 r s n c q9) := R9
                  clear R9 b9 zr9
                  have pk_ : Blk v0_3 lb (List.map (Value.int .i64) [1, (l : Int), nd]) := HB3.out
                  obtain ⟨jn, nv, hjn, jl, jv, -⟩ := picked (w' := v0_3) pk_ jj0 (by simp; omega)
                  subst hjn
                  have jl3 : (jn : Int) < 3 := by simpa using jl
                  have jl4 : jn < 3 := by omega
                  clear pk_ jl
                  refine hK.out _ _ (⟨HI.out.2.2 1 _ rfl, HI.out.1⟩) (fun hHeld => ?_)
                  clear hK KK
                  refine wpAnyH_take (i := 11) (v := .pointer (some ⟨lb, jn, none⟩)) rfl (by kernel_rfl) (by kernel_rfl) (by kernel_rfl) (fun _ _ _ h => h) (Or.inl ⟨by kernel_rfl, ?_⟩) hHeld ?_
                  · intro w' hSw
                    obtain ⟨hc, hz⟩ := hSw
                    first | (go_simp; done) | (go_simp; with_reducible rfl) | (go_simp; rw [IntKind.wrap_i64]; omega) | (go_simp; omega)
                  simp only [Act.put, List.setIfInBounds_toArray, List.set_cons_zero, List.set_cons_succ]
                  refine wpAnyH_ready (rs := [12]) (by kernel_rfl) (by simp) ?_
                  refine (AllReadyH.cons rfl (fun KK hK => ?_) AllReadyH.nil)
                  go_simp
                  clear jv
                  refine hK.out _ _ (⟨HI.out.2.2 1 _ rfl, HI.out.1⟩) (fun hHeld => ?_)
                  clear hK KK
                  refine wpAnyH_take (i := 13) (v := .pointer (some ⟨gi, 0, none⟩)) rfl (by kernel_rfl) (by kernel_rfl) (by kernel_rfl) (fun _ _ _ h => h) (Or.inl ⟨by kernel_rfl, ?_⟩) hHeld ?_
                  · intro w' hSw
                    obtain ⟨hc, hz⟩ := hSw
                    first | (go_simp; done) | (go_simp; with_reducible rfl) | (go_simp; rw [IntKind.wrap_i64]; omega) | (go_simp; omega)
                  simp only [Act.put, List.setIfInBounds_toArray, List.set_cons_zero, List.set_cons_succ]
                  refine wpAnyH_ready (rs := [14]) (by kernel_rfl) (by simp) ?_
                  refine (AllReadyH.cons rfl (fun KK hK => ?_) AllReadyH.nil)
                  have hl_ : v0_3.cell? ⟨gi, 0, none⟩ = some (.int .i64 0) := HI.out.2.2 0 _ rfl
                  have hf_ : v0_3.frozen? ⟨gi, 0, none⟩ = false := HI.out.2.1 0
                  go_simp
                  obtain ⟨v0_5, hv_⟩ : ∃ z, z = v0_3.setCell ⟨gi, 0, none⟩ (.int .i64 nv) := ⟨_, rfl⟩
                  rw [← hv_]
                  have bs_ : Beside gi v0_3 v0_5 := by rw [hv_]; exact Beside.setCell gi _ _ _
                  have zr9 : r < v0_3.heap.size := HR.out.1
                  have zi9 : gi < v0_3.heap.size := HI.out.1
                  have HI8 : Hid (Blk v0_5 gi [.int .i64 nv, .slice (some ⟨g0, 0, none⟩) l ci]) := by show Blk _ _ _; rw [hv_]; exact HI.out.set 0 _
                  have HQ8 : Hid (Blk v0_5 gq [.int .i64 0, .slice none 0 0]) := HQ.out.beside bs_ (by omega)
                  have HF8 : Hid (Blk v0_5 gt [.int .i64 x, .slice tv k cv]) := HF.out.beside bs_ (by omega)
                  have HL8 : Hid (Lst (gi + 1) 2 1 v0_5 (.slice (some ⟨g0, 0, none⟩) l ci) l U) := HL.out.beside bs_ (by omega)
                  have HG8 : Hid (GtD B H v0_5 (.slice tv k cv) k) := HG.out.besideH bs_ zi1
                  have HZ8 : Hid (B ≤ v0_5.heap.size) := Nat.le_trans HZ.out bs_.2.2.2.1
                  have HS8 : Hid (Beside r w v0_5) := HS.out.onB (bs_.below (by have := HGQ.out; omega) (HS.out.2.2.2.1))
                  have HR8 : Hid (Rd v0_5 r s n c q9) := Rd.below' HR.out (bs_.below (by omega) (by omega))
                  clear hv_ bs_ zr9 zi9 hl_ hf_ HI HQ HF HL HG HZ HS HR HY
                  refine hK.out _ _ (⟨HI8.out.2.2 1 _ rfl, HI8.out.1⟩) (fun hHeld => ?_)
                  clear hK KK
                  refine wpAnyH_done (by kernel_rfl) ?_ _
                  clear hHeld
                  have f1 := HF8.out.2.2 1 _ rfl
                  have f1f := HF8.out.2.1 1
                  have fz := HF8.out.1
                  have i0 := HI8.out.2.2 0 _ rfl
                  have i1 := HI8.out.2.2 1 _ rfl
                  have iz := HI8.out.1
                  have hst := store_slT
                  have zz_ : B ≤ v0_5.heap.size := HZ8.out
                  have HLB : Hid (Lst B 2 1 v0_5 (.slice (some ⟨g0, 0, none⟩) l ci) l U) := HL8.out.lowL (by omega)
                  go_wp2_with (at_builtin; refine list_Gate B H (.slice tv k cv) k U (.tmp 90) (.tmp 92) (by rfl) (by rfl) (by rfl) (by rfl) HG8.out (by omega) HLB.out (by omega) (by omega) (by omega) (by omega) ?_; intro g9 cap9 w9 l9 b9; have f9 := (HF8.out.belowB b9 (by omega)).2.2 1 _ rfl; have f9f := (HF8.out.belowB b9 (by omega)).2.1 1; have fz9 := (HF8.out.belowB b9 (by omega)).1)
                  have bs_ : Beside gt w9 (w9.setCell ⟨gt, 1, none⟩ (.slice (some ⟨g9, 0, none⟩) (k + 1) cap9)) := Beside.setCell gt _ _ _
                  have zw_ := HS8.out.2.2.2.1
                  have zgq := HGQ.out
                  have zb9 := b9.size
                  have HQ9 : Hid (Blk (w9.setCell ⟨gt, 1, none⟩ (.slice (some ⟨g9, 0, none⟩) (k + 1) cap9)) gq [.int .i64 0, .slice none 0 0]) := (HQ8.out.belowB b9 (by omega)).beside bs_ (by omega)
                  have HF9 : Hid (Blk (w9.setCell ⟨gt, 1, none⟩ (.slice (some ⟨g9, 0, none⟩) (k + 1) cap9)) gt [.int .i64 x, .slice (some ⟨g9, 0, none⟩) (k + 1) cap9]) := (HF8.out.belowB b9 (by omega)).set 1 _
                  have HZ9 : Hid (B ≤ (w9.setCell ⟨gt, 1, none⟩ (.slice (some ⟨g9, 0, none⟩) (k + 1) cap9)).heap.size) := Nat.le_trans HZ8.out (Nat.le_trans b9.size bs_.2.2.2.1)
                  have HG9 : Hid (GtD B (w9.setCell ⟨gt, 1, none⟩ (.slice (some ⟨g9, 0, none⟩) (k + 1) cap9)).heap.size (w9.setCell ⟨gt, 1, none⟩ (.slice (some ⟨g9, 0, none⟩) (k + 1) cap9)) (.slice (some ⟨g9, 0, none⟩) (k + 1) cap9) (k + 1)) := (l9.beside bs_ zB).up
                  have HS9 : Hid (Beside r w (w9.setCell ⟨gt, 1, none⟩ (.slice (some ⟨g9, 0, none⟩) (k + 1) cap9))) := (HS8.out.onB (b9.mono (by omega))).onB (bs_.below (by omega) (by omega))
                  have HR9 : Hid (Rd (w9.setCell ⟨gt, 1, none⟩ (.slice (some ⟨g9, 0, none⟩) (k + 1) cap9)) r s n c q9) := Rd.below' (Rd.below' HR8.out (b9.mono (by omega))) (bs_.below (by omega) (by omega))
                  go_roundw
                  case rel => exact ⟨k + 1, q9, _, by omega, by congr 1; omega, HR9, HS9, HQ9, HF9, HZ9, HG9⟩
                  case measure => simp [intOf]; omega
                · go_simp
                  go_wp2_with (first | (go_at_call 42; refine (below_any 3 HR).mono ?_; rintro e v0_6 ⟨jj, q9, rfl, jj0, -, jj2, R9, b9⟩))
                  have zr9 : r < v0_1.heap.size := HR.out.1
                  replace HS : Hid (Beside r w v0_6) := HS.out.trans b9
                  replace HQ : Hid (Blk v0_6 gq [.int .i64 0, .slice none 0 0]) := HQ.out.beside b9 (by omega)
                  replace HF : Hid (Blk v0_6 gt [.int .i64 x, .slice tv k cv]) := HF.out.beside b9 (by omega)
                  replace HZ : Hid (B ≤ v0_6.heap.size) := Nat.le_trans HZ.out b9.2.2.2.1
                  replace HG : Hid (GtD B H v0_6 (.slice tv k cv) k) := HG.out.beside b9 (by omega)
                  replace HI : Hid (Blk v0_6 gi [.int .i64 0, .slice (some ⟨g0, 0, none⟩) l ci]) := HI.out.beside b9 (by omega)
                  replace HY : Hid (gi + 1 ≤ v0_6.heap.size) := Nat.le_trans HY.out b9.2.2.2.1
                  replace HL : Hid (Lst (gi + 1) 2 1 v0_6 (.slice (some ⟨g0, 0, none⟩) l ci) l U) := HL.out.beside b9 (by omega)
                  replace HR : Hid (Rd v0_6 r s n c q9) := R9
                  clear R9 b9 zr9
                  refine hK.out _ _ (⟨HI.out.2.2 1 _ rfl, HI.out.1⟩) (fun hHeld => ?_)
                  clear hK KK
                  refine wpAnyH_ready (rs := [8]) (by kernel_rfl) (by simp) ?_
                  refine (AllReadyH.cons rfl (fun KK hK => ?_) AllReadyH.nil)
                  go_simp
                  obtain ⟨v0_7, hv_⟩ : ∃ z, z = v0_6.alloc (.cells #[.int .i64 1, .int .i64 (l : Int), .int .i64 nd] 2) := ⟨_, rfl⟩
                  rw [← hv_]
                  obtain ⟨lb, hlb⟩ : ∃ z, z = v0_6.heap.size := ⟨_, rfl⟩
                  have zlb : r < lb := by rw [hlb]; exact HR.out.1
                  have b_ : Below v0_6.heap.size v0_6 v0_7 := by rw [hv_]; exact below0 _ _
                  have HB3 : Hid (Blk v0_7 lb [.int .i64 1, .int .i64 (l : Int), .int .i64 nd]) := by show Blk _ _ _; rw [hv_, hlb]; exact Blk.new v0_6 #[.int .i64 1, .int .i64 (l : Int), .int .i64 nd] 2
                  replace HR : Hid (Rd v0_7 r s n c q9) := HR.out.below b_
                  replace HS : Hid (Beside r w v0_7) := HS.out.trans (Beside.of b_)
                  replace HQ : Hid (Blk v0_7 gq [.int .i64 0, .slice none 0 0]) := HQ.out.below b_
                  replace HF : Hid (Blk v0_7 gt [.int .i64 x, .slice tv k cv]) := HF.out.below b_
                  replace HZ : Hid (B ≤ v0_7.heap.size) := Nat.le_trans HZ.out b_.size
                  replace HG : Hid (GtD B H v0_7 (.slice tv k cv) k) := HG.out.below b_
                  replace HI : Hid (Blk v0_7 gi [.int .i64 0, .slice (some ⟨g0, 0, none⟩) l ci]) := HI.out.below b_
                  replace HY : Hid (gi + 1 ≤ v0_7.heap.size) := Nat.le_trans HY.out b_.size
                  replace HL : Hid (Lst (gi + 1) 2 1 v0_7 (.slice (some ⟨g0, 0, none⟩) l ci) l U) := HL.out.below b_
                  try rw [← hlb]
                  clear hv_ hlb b_
                  have pk_ : Blk v0_7 lb (List.map (Value.int .i64) [1, (l : Int), nd]) := HB3.out
                  obtain ⟨jn, nv, hjn, jl, jv, -⟩ := picked (w' := v0_7) pk_ jj0 (by simp; omega)
                  subst hjn
                  have jl3 : (jn : Int) < 3 := by simpa using jl
                  have jl4 : jn < 3 := by omega
                  clear pk_ jl
                  refine hK.out _ _ (⟨HI.out.2.2 1 _ rfl, HI.out.1⟩) (fun hHeld => ?_)
                  clear hK KK
                  refine wpAnyH_take (i := 11) (v := .pointer (some ⟨lb, jn, none⟩)) rfl (by kernel_rfl) (by kernel_rfl) (by kernel_rfl) (fun _ _ _ h => h) (Or.inl ⟨by kernel_rfl, ?_⟩) hHeld ?_
                  · intro w' hSw
                    obtain ⟨hc, hz⟩ := hSw
                    first | (go_simp; done) | (go_simp; with_reducible rfl) | (go_simp; rw [IntKind.wrap_i64]; omega) | (go_simp; omega)
                  simp only [Act.put, List.setIfInBounds_toArray, List.set_cons_zero, List.set_cons_succ]
                  refine wpAnyH_ready (rs := [12]) (by kernel_rfl) (by simp) ?_
                  refine (AllReadyH.cons rfl (fun KK hK => ?_) AllReadyH.nil)
                  go_simp
                  clear jv
                  refine hK.out _ _ (⟨HI.out.2.2 1 _ rfl, HI.out.1⟩) (fun hHeld => ?_)
                  clear hK KK
                  refine wpAnyH_take (i := 13) (v := .pointer (some ⟨gi, 0, none⟩)) rfl (by kernel_rfl) (by kernel_rfl) (by kernel_rfl) (fun _ _ _ h => h) (Or.inl ⟨by kernel_rfl, ?_⟩) hHeld ?_
                  · intro w' hSw
                    obtain ⟨hc, hz⟩ := hSw
                    first | (go_simp; done) | (go_simp; with_reducible rfl) | (go_simp; rw [IntKind.wrap_i64]; omega) | (go_simp; omega)
                  simp only [Act.put, List.setIfInBounds_toArray, List.set_cons_zero, List.set_cons_succ]
                  refine wpAnyH_ready (rs := [14]) (by kernel_rfl) (by simp) ?_
                  refine (AllReadyH.cons rfl (fun KK hK => ?_) AllReadyH.nil)
                  have hl_ : v0_7.cell? ⟨gi, 0, none⟩ = some (.int .i64 0) := HI.out.2.2 0 _ rfl
                  have hf_ : v0_7.frozen? ⟨gi, 0, none⟩ = false := HI.out.2.1 0
                  go_simp
                  obtain ⟨v0_9, hv_⟩ : ∃ z, z = v0_7.setCell ⟨gi, 0, none⟩ (.int .i64 nv) := ⟨_, rfl⟩
                  rw [← hv_]
                  have bs_ : Beside gi v0_7 v0_9 := by rw [hv_]; exact Beside.setCell gi _ _ _
                  have zr9 : r < v0_7.heap.size := HR.out.1
                  have zi9 : gi < v0_7.heap.size := HI.out.1
                  have HI8 : Hid (Blk v0_9 gi [.int .i64 nv, .slice (some ⟨g0, 0, none⟩) l ci]) := by show Blk _ _ _; rw [hv_]; exact HI.out.set 0 _
                  have HQ8 : Hid (Blk v0_9 gq [.int .i64 0, .slice none 0 0]) := HQ.out.beside bs_ (by omega)
                  have HF8 : Hid (Blk v0_9 gt [.int .i64 x, .slice tv k cv]) := HF.out.beside bs_ (by omega)
                  have HL8 : Hid (Lst (gi + 1) 2 1 v0_9 (.slice (some ⟨g0, 0, none⟩) l ci) l U) := HL.out.beside bs_ (by omega)
                  have HG8 : Hid (GtD B H v0_9 (.slice tv k cv) k) := HG.out.besideH bs_ zi1
                  have HZ8 : Hid (B ≤ v0_9.heap.size) := Nat.le_trans HZ.out bs_.2.2.2.1
                  have HS8 : Hid (Beside r w v0_9) := HS.out.onB (bs_.below (by have := HGQ.out; omega) (HS.out.2.2.2.1))
                  have HR8 : Hid (Rd v0_9 r s n c q9) := Rd.below' HR.out (bs_.below (by omega) (by omega))
                  clear hv_ bs_ zr9 zi9 hl_ hf_ HI HQ HF HL HG HZ HS HR HY
                  refine hK.out _ _ (⟨HI8.out.2.2 1 _ rfl, HI8.out.1⟩) (fun hHeld => ?_)
                  clear hK KK
                  refine wpAnyH_done (by kernel_rfl) ?_ _
                  clear hHeld
                  have f1 := HF8.out.2.2 1 _ rfl
                  have f1f := HF8.out.2.1 1
                  have fz := HF8.out.1
                  have i0 := HI8.out.2.2 0 _ rfl
                  have i1 := HI8.out.2.2 1 _ rfl
                  have iz := HI8.out.1
                  have hst := store_slT
                  have zz_ : B ≤ v0_9.heap.size := HZ8.out
                  have HLB : Hid (Lst B 2 1 v0_9 (.slice (some ⟨g0, 0, none⟩) l ci) l U) := HL8.out.lowL (by omega)
                  go_wp2_with (at_builtin; refine list_Gate B H (.slice tv k cv) k U (.tmp 90) (.tmp 92) (by rfl) (by rfl) (by rfl) (by rfl) HG8.out (by omega) HLB.out (by omega) (by omega) (by omega) (by omega) ?_; intro g9 cap9 w9 l9 b9; have f9 := (HF8.out.belowB b9 (by omega)).2.2 1 _ rfl; have f9f := (HF8.out.belowB b9 (by omega)).2.1 1; have fz9 := (HF8.out.belowB b9 (by omega)).1)
                  have bs_ : Beside gt w9 (w9.setCell ⟨gt, 1, none⟩ (.slice (some ⟨g9, 0, none⟩) (k + 1) cap9)) := Beside.setCell gt _ _ _
                  have zw_ := HS8.out.2.2.2.1
                  have zgq := HGQ.out
                  have zb9 := b9.size
                  have HQ9 : Hid (Blk (w9.setCell ⟨gt, 1, none⟩ (.slice (some ⟨g9, 0, none⟩) (k + 1) cap9)) gq [.int .i64 0, .slice none 0 0]) := (HQ8.out.belowB b9 (by omega)).beside bs_ (by omega)
                  have HF9 : Hid (Blk (w9.setCell ⟨gt, 1, none⟩ (.slice (some ⟨g9, 0, none⟩) (k + 1) cap9)) gt [.int .i64 x, .slice (some ⟨g9, 0, none⟩) (k + 1) cap9]) := (HF8.out.belowB b9 (by omega)).set 1 _
                  have HZ9 : Hid (B ≤ (w9.setCell ⟨gt, 1, none⟩ (.slice (some ⟨g9, 0, none⟩) (k + 1) cap9)).heap.size) := Nat.le_trans HZ8.out (Nat.le_trans b9.size bs_.2.2.2.1)
                  have HG9 : Hid (GtD B (w9.setCell ⟨gt, 1, none⟩ (.slice (some ⟨g9, 0, none⟩) (k + 1) cap9)).heap.size (w9.setCell ⟨gt, 1, none⟩ (.slice (some ⟨g9, 0, none⟩) (k + 1) cap9)) (.slice (some ⟨g9, 0, none⟩) (k + 1) cap9) (k + 1)) := (l9.beside bs_ zB).up
                  have HS9 : Hid (Beside r w (w9.setCell ⟨gt, 1, none⟩ (.slice (some ⟨g9, 0, none⟩) (k + 1) cap9))) := (HS8.out.onB (b9.mono (by omega))).onB (bs_.below (by omega) (by omega))
                  have HR9 : Hid (Rd (w9.setCell ⟨gt, 1, none⟩ (.slice (some ⟨g9, 0, none⟩) (k + 1) cap9)) r s n c q9) := Rd.below' (Rd.below' HR8.out (b9.mono (by omega))) (bs_.below (by omega) (by omega))
                  go_roundw
                  case rel => exact ⟨k + 1, q9, _, by omega, by congr 1; omega, HR9, HS9, HQ9, HF9, HZ9, HG9⟩
                  case measure => simp [intOf]; omega
        case neg =>
          obtain rfl : N = (k : Int) := by omega
          have k1 : 1 ≤ k := by omega
          have k6 : k ≤ 6 := by omega
          obtain ⟨g, cap, e, zg1, zg2⟩ := HG.out.list.blk (by omega)
          cases e
          obtain ⟨f, A, hGF, hinj, -, -, h6⟩ := HG.out
          have HGF : Hid (GtF B wa (.slice (some ⟨g, 0, none⟩) k cv) k f A) := hGF
          have HINJ : Hid (∀ i j, i < k → j < k → A i = A j → i = j) := hinj
          have H6 : Hid (∀ j, j < k → ∀ t k c, f (j * 2 + 1) = .slice t k c → k ≤ 6) := h6
          have f1 := HF.out.2.2 1 _ rfl
          have fz := HF.out.1
          clear HG hGF hinj h6 hk hlt
          go_upto_region 14 with fail
          go_wp2_with fail
          refine (below_any (k : Int) HR).mono ?_
          rintro e y4 ⟨ix, q10, rfl, ix0, -, ix2, R_, b_⟩
          have zr_ : r < wa.heap.size := HR.out.1
          replace HS : Hid (Beside r w y4) := HS.out.trans b_
          replace HQ : Hid (Blk y4 gq [.int .i64 0, .slice none 0 0]) := HQ.out.beside b_ (by omega)
          replace HF : Hid (Blk y4 gt [.int .i64 x, .slice (some ⟨g, 0, none⟩) k cv]) := HF.out.beside b_ (by omega)
          replace HZ : Hid (B ≤ y4.heap.size) := Nat.le_trans HZ.out b_.2.2.2.1
          replace HGF : Hid (GtF B y4 (.slice (some ⟨g, 0, none⟩) k cv) k f A) := HGF.out.beside b_ (by omega)
          replace HR : Hid (Rd y4 r s n c q10) := R_
          clear R_ b_ zr_
          obtain ⟨i0, hi0⟩ : ∃ i0 : Nat, ix = (i0 : Int) := ⟨ix.toNat, by omega⟩
          subst hi0
          have i0k : i0 < k := by omega
          have i0k' : (i0 : Int) < (k : Int) := by omega
          clear ix2 f1 fz
          go_upto_region 15 with fail
          go_wp2_with fail
          refine (below_any 40 HR).mono ?_
          rintro e y5 ⟨sw, q11, rfl, sw0, -, -, R_, b_⟩
          have zr_ : r < y4.heap.size := HR.out.1
          replace HS : Hid (Beside r w y5) := HS.out.trans b_
          replace HQ : Hid (Blk y5 gq [.int .i64 0, .slice none 0 0]) := HQ.out.beside b_ (by omega)
          replace HF : Hid (Blk y5 gt [.int .i64 x, .slice (some ⟨g, 0, none⟩) k cv]) := HF.out.beside b_ (by omega)
          replace HZ : Hid (B ≤ y5.heap.size) := Nat.le_trans HZ.out b_.2.2.2.1
          replace HGF : Hid (GtF B y5 (.slice (some ⟨g, 0, none⟩) k cv) k f A) := HGF.out.beside b_ (by omega)
          replace HR : Hid (Rd y5 r s n c q11) := R_
          clear R_ b_ zr_
          by_cases e0 : sw = 0
          case pos =>
            subst e0
            clear sw0
            obtain ⟨x9, kk, cc, U9, ea, eb, L9, kk1, -⟩ := HGF.out.2 i0 i0k
            have kk6 : kk ≤ 6 := H6.out i0 i0k _ _ _ eb
            have HFI : Hid (f (i0 * 2 + 1) = .slice (some ⟨A i0, 0, none⟩) kk cc) := eb
            have kk1' : (1 : Int) ≤ (kk : Int) := by omega
            clear ea eb
            clear L9
            go_upto_region 17 with fail
            refine wp_region_held_drew (S := fun w' => w'.cell? ⟨gt, 0, none⟩ = some (.int .i64 x) ∧ w'.cell? ⟨gt, 1, none⟩ = some (.slice (some ⟨g, 0, none⟩) k cv) ∧ gt < w'.heap.size ∧ w'.cell? ⟨g, i0 * 2 + 1, none⟩ = some (.slice (some ⟨A i0, 0, none⟩) kk cc) ∧ g < w'.heap.size) (by kernel_rfl) ?_ (fun hHeld => ?_)
            · exact ⟨HF.out.2.2 0 _ rfl, HF.out.2.2 1 _ rfl, HF.out.1, (by have t_ := GtF.cell HGF.out (show i0 * 2 + 1 < k * 2 by omega); rw [HFI.out] at t_; exact t_), (World.ownsRow.lt HGF.out.1 g rfl).2⟩
            obtain ⟨v0, hv0⟩ : ∃ z, z = y5.drew := ⟨_, rfl⟩
            try rw [← hv0] at hHeld
            rw [← hv0]
            have bv0 : Below y5.heap.size y5 v0 := by rw [hv0]; exact Below.drew (Below.refl _ _)
            clear hv0
            replace HR : Hid (Rd v0 r s n c q11) := HR.out.below bv0
            replace HS : Hid (Beside r w v0) := HS.out.trans (Beside.of bv0)
            replace HQ : Hid (Blk v0 gq [.int .i64 0, .slice none 0 0]) := HQ.out.below bv0
            replace HF : Hid (Blk v0 gt [.int .i64 x, .slice (some ⟨g, 0, none⟩) k cv]) := HF.out.below bv0
            replace HZ : Hid (B ≤ v0.heap.size) := Nat.le_trans HZ.out bv0.size
            replace HGF : Hid (GtF B v0 (.slice (some ⟨g, 0, none⟩) k cv) k f A) := HGF.out.below bv0
            clear bv0
            refine wpAnyH_take (i := 0) (v := .pointer (some ⟨gt, 1, none⟩)) rfl (by kernel_rfl) (by kernel_rfl) (by kernel_rfl) (fun _ _ _ h => h) (Or.inl ⟨by kernel_rfl, ?_⟩) hHeld ?_
            · intro w' hSw
              obtain ⟨hc0, hc1, hz1, hc2, hz2⟩ := hSw
              first | (go_simp; done) | (go_simp; with_reducible rfl) | (go_simp; rw [IntKind.wrap_i64]; omega) | (go_simp; omega)
            simp only [Act.put, List.setIfInBounds_toArray, List.set_cons_zero, List.set_cons_succ]
            refine wpAnyH_take (i := 1) (v := .slice (some ⟨g, 0, none⟩) k cv) rfl (by kernel_rfl) (by kernel_rfl) (by kernel_rfl) (fun _ _ _ h => h) (Or.inl ⟨by kernel_rfl, ?_⟩) hHeld ?_
            · intro w' hSw
              obtain ⟨hc0, hc1, hz1, hc2, hz2⟩ := hSw
              first | (go_simp; done) | (go_simp; with_reducible rfl) | (go_simp; rw [IntKind.wrap_i64]; omega) | (go_simp; omega)
            simp only [Act.put, List.setIfInBounds_toArray, List.set_cons_zero, List.set_cons_succ]
            refine wpAnyH_take (i := 2) (v := .int .i64 (i0 : Int)) rfl (by kernel_rfl) (by kernel_rfl) (by kernel_rfl) (fun _ _ _ h => h) (Or.inl ⟨by kernel_rfl, ?_⟩) hHeld ?_
            · intro w' hSw
              obtain ⟨hc0, hc1, hz1, hc2, hz2⟩ := hSw
              first | (go_simp; done) | (go_simp; with_reducible rfl) | (go_simp; rw [IntKind.wrap_i64]; omega) | (go_simp; omega)
            simp only [Act.put, List.setIfInBounds_toArray, List.set_cons_zero, List.set_cons_succ]
            refine wpAnyH_take (i := 3) (v := .pointer (some ⟨r, 0, none⟩)) rfl (by kernel_rfl) (by kernel_rfl) (by kernel_rfl) (fun _ _ _ h => h) (Or.inl ⟨by kernel_rfl, ?_⟩) hHeld ?_
            · intro w' hSw
              obtain ⟨hc0, hc1, hz1, hc2, hz2⟩ := hSw
              first | (go_simp; done) | (go_simp; with_reducible rfl) | (go_simp; rw [IntKind.wrap_i64]; omega) | (go_simp; omega)
            simp only [Act.put, List.setIfInBounds_toArray, List.set_cons_zero, List.set_cons_succ]
            refine wpAnyH_take (i := 4) (v := .pointer (some ⟨gt, 1, none⟩)) rfl (by kernel_rfl) (by kernel_rfl) (by kernel_rfl) (fun _ _ _ h => h) (Or.inl ⟨by kernel_rfl, ?_⟩) hHeld ?_
            · intro w' hSw
              obtain ⟨hc0, hc1, hz1, hc2, hz2⟩ := hSw
              first | (go_simp; done) | (go_simp; with_reducible rfl) | (go_simp; rw [IntKind.wrap_i64]; omega) | (go_simp; omega)
            simp only [Act.put, List.setIfInBounds_toArray, List.set_cons_zero, List.set_cons_succ]
            refine wpAnyH_take (i := 5) (v := .slice (some ⟨g, 0, none⟩) k cv) rfl (by kernel_rfl) (by kernel_rfl) (by kernel_rfl) (fun _ _ _ h => h) (Or.inl ⟨by kernel_rfl, ?_⟩) hHeld ?_
            · intro w' hSw
              obtain ⟨hc0, hc1, hz1, hc2, hz2⟩ := hSw
              first | (go_simp; done) | (go_simp; with_reducible rfl) | (go_simp; rw [IntKind.wrap_i64]; omega) | (go_simp; omega)
            simp only [Act.put, List.setIfInBounds_toArray, List.set_cons_zero, List.set_cons_succ]
            refine wpAnyH_take (i := 6) (v := .int .i64 (i0 : Int)) rfl (by kernel_rfl) (by kernel_rfl) (by kernel_rfl) (fun _ _ _ h => h) (Or.inl ⟨by kernel_rfl, ?_⟩) hHeld ?_
            · intro w' hSw
              obtain ⟨hc0, hc1, hz1, hc2, hz2⟩ := hSw
              first | (go_simp; done) | (go_simp; with_reducible rfl) | (go_simp; rw [IntKind.wrap_i64]; omega) | (go_simp; omega)
            simp only [Act.put, List.setIfInBounds_toArray, List.set_cons_zero, List.set_cons_succ]
            refine wpAnyH_take (i := 7) (v := .pointer (some ⟨g, i0 * 2, none⟩)) rfl (by kernel_rfl) (by kernel_rfl) (by kernel_rfl) (fun _ _ _ h => h) (Or.inl ⟨by kernel_rfl, ?_⟩) hHeld ?_
            · intro w' hSw
              obtain ⟨hc0, hc1, hz1, hc2, hz2⟩ := hSw
              first | (go_simp; done) | (go_simp; with_reducible rfl) | (go_simp; rw [IntKind.wrap_i64]; omega) | (go_simp; omega)
            simp only [Act.put, List.setIfInBounds_toArray, List.set_cons_zero, List.set_cons_succ]
            refine wpAnyH_take (i := 8) (v := .pointer (some ⟨g, i0 * 2 + 1, none⟩)) rfl (by kernel_rfl) (by kernel_rfl) (by kernel_rfl) (fun _ _ _ h => h) (Or.inl ⟨by kernel_rfl, ?_⟩) hHeld ?_
            · intro w' hSw
              obtain ⟨hc0, hc1, hz1, hc2, hz2⟩ := hSw
              first | (go_simp; done) | (go_simp; with_reducible rfl) | (go_simp; rw [IntKind.wrap_i64]; omega) | (go_simp; omega)
            simp only [Act.put, List.setIfInBounds_toArray, List.set_cons_zero, List.set_cons_succ]
            refine wpAnyH_take (i := 9) (v := .slice (some ⟨A i0, 0, none⟩) kk cc) rfl (by kernel_rfl) (by kernel_rfl) (by kernel_rfl) (fun _ _ _ h => h) (Or.inl ⟨by kernel_rfl, ?_⟩) hHeld ?_
            · intro w' hSw
              obtain ⟨hc0, hc1, hz1, hc2, hz2⟩ := hSw
              first | (go_simp; done) | (go_simp; with_reducible rfl) | (go_simp; rw [IntKind.wrap_i64]; omega) | (go_simp; omega)
            simp only [Act.put, List.setIfInBounds_toArray, List.set_cons_zero, List.set_cons_succ]
            refine wpAnyH_take (i := 10) (v := .int .i64 (kk : Int)) rfl (by kernel_rfl) (by kernel_rfl) (by kernel_rfl) (fun _ _ _ h => h) (Or.inl ⟨by kernel_rfl, ?_⟩) hHeld ?_
            · intro w' hSw
              obtain ⟨hc0, hc1, hz1, hc2, hz2⟩ := hSw
              first | (go_simp; done) | (go_simp; with_reducible rfl) | (go_simp; rw [IntKind.wrap_i64]; omega) | (go_simp; omega)
            simp only [Act.put, List.setIfInBounds_toArray, List.set_cons_zero, List.set_cons_succ]
            refine wpAnyH_ready (rs := [11]) (by kernel_rfl) (by simp) ?_
            refine (AllReadyH.cons rfl (fun KK hK => ?_) AllReadyH.nil)
            go_simp
            go_wp2_with (first | (go_at_call 56; refine (off_any 1 (kk : Int) (by omega) kk1' (by omega) HR).mono ?_; rintro e v0_1 ⟨nd, q12, rfl, -, R9, b9⟩))
            have zr9 : r < v0.heap.size := HR.out.1
            replace HS : Hid (Beside r w v0_1) := HS.out.trans b9
            replace HQ : Hid (Blk v0_1 gq [.int .i64 0, .slice none 0 0]) := HQ.out.beside b9 (by omega)
            replace HF : Hid (Blk v0_1 gt [.int .i64 x, .slice (some ⟨g, 0, none⟩) k cv]) := HF.out.beside b9 (by omega)
            replace HZ : Hid (B ≤ v0_1.heap.size) := Nat.le_trans HZ.out b9.2.2.2.1
            replace HGF : Hid (GtF B v0_1 (.slice (some ⟨g, 0, none⟩) k cv) k f A) := HGF.out.beside b9 (by omega)
            replace HR : Hid (Rd v0_1 r s n c q12) := R9
            clear R9 b9 zr9
            refine hK.out _ _ (⟨HF.out.2.2 0 _ rfl, HF.out.2.2 1 _ rfl, HF.out.1, (by have t_ := GtF.cell HGF.out (show i0 * 2 + 1 < k * 2 by omega); rw [HFI.out] at t_; exact t_), (World.ownsRow.lt HGF.out.1 g rfl).2⟩) (fun hHeld => ?_)
            clear hK KK
            refine wpAnyH_take (i := 12) (v := .pointer (some ⟨g, i0 * 2, none⟩)) rfl (by kernel_rfl) (by kernel_rfl) (by kernel_rfl) (fun _ _ _ h => h) (Or.inl ⟨by kernel_rfl, ?_⟩) hHeld ?_
            · intro w' hSw
              obtain ⟨hc0, hc1, hz1, hc2, hz2⟩ := hSw
              first | (go_simp; done) | (go_simp; with_reducible rfl) | (go_simp; rw [IntKind.wrap_i64]; omega) | (go_simp; omega)
            simp only [Act.put, List.setIfInBounds_toArray, List.set_cons_zero, List.set_cons_succ]
            refine wpAnyH_take (i := 13) (v := .pointer (some ⟨g, i0 * 2, none⟩)) rfl (by kernel_rfl) (by kernel_rfl) (by kernel_rfl) (fun _ _ _ h => h) (Or.inl ⟨by kernel_rfl, ?_⟩) hHeld ?_
            · intro w' hSw
              obtain ⟨hc0, hc1, hz1, hc2, hz2⟩ := hSw
              first | (go_simp; done) | (go_simp; with_reducible rfl) | (go_simp; rw [IntKind.wrap_i64]; omega) | (go_simp; omega)
            simp only [Act.put, List.setIfInBounds_toArray, List.set_cons_zero, List.set_cons_succ]
            refine wpAnyH_ready (rs := [14]) (by kernel_rfl) (by simp) ?_
            refine (AllReadyH.cons rfl (fun KK hK => ?_) AllReadyH.nil)
            obtain ⟨y9, hy9⟩ : ∃ y9, f (i0 * 2) = .int .i64 y9 := by
              obtain ⟨y9, _, _, _, ea, _⟩ := HGF.out.2 i0 i0k
              exact ⟨y9, ea⟩
            have hl_ : v0_1.cell? ⟨g, i0 * 2, none⟩ = some (.int .i64 y9) := by rw [GtF.cell HGF.out (show i0 * 2 < k * 2 by omega), hy9]
            have hf_ : v0_1.frozen? ⟨g, i0 * 2, none⟩ = false := HGF.out.1.frozenAt _
            have hg_ : g < v0_1.heap.size := (World.ownsRow.lt HGF.out.1 g rfl).2
            go_simp
            obtain ⟨v0_2, hv_⟩ : ∃ z, z = v0_1.setCell ⟨g, i0 * 2, none⟩ (.int .i64 nd) := ⟨_, rfl⟩
            rw [← hv_]
            have bs_ : Beside g v0_1 v0_2 := by rw [hv_]; exact Beside.setCell g _ _ _
            have HGF8 : Hid (GtF B v0_2 (.slice (some ⟨g, 0, none⟩) k cv) k (fun j => if j = i0 * 2 then .int .i64 nd else f j) A) := by show GtF _ _ _ _ _ _; rw [hv_]; exact GtF.put0 HGF.out nd
            have zr9 : r < v0_1.heap.size := HR.out.1
            have HQ8 : Hid (Blk v0_2 gq [.int .i64 0, .slice none 0 0]) := HQ.out.beside bs_ (by omega)
            have HF8 : Hid (Blk v0_2 gt [.int .i64 x, .slice (some ⟨g, 0, none⟩) k cv]) := HF.out.beside bs_ (by omega)
            have HS8 : Hid (Beside r w v0_2) := HS.out.onB (bs_.below (by have := HGQ.out; omega) (HS.out.2.2.2.1))
            have HR8 : Hid (Rd v0_2 r s n c q12) := Rd.below' HR.out (bs_.below (by omega) (by omega))
            clear hv_ bs_ zr9 hl_ hf_ hy9
            refine hK.out _ _ (⟨HF8.out.2.2 0 _ rfl, HF8.out.2.2 1 _ rfl, HF8.out.1, (by rw [GtF.cell HGF8.out (show i0 * 2 + 1 < k * 2 by omega)]; show some (if i0 * 2 + 1 = i0 * 2 then _ else f (i0 * 2 + 1)) = _; rw [if_neg (by omega), HFI.out]), (World.ownsRow.lt HGF8.out.1 g rfl).2⟩) (fun hHeld => ?_)
            clear hK KK
            refine wpAnyH_done (by kernel_rfl) ?_ _
            clear hHeld
            have HGL : Hid (GtL B v0_2 (.slice (some ⟨g, 0, none⟩) k cv) k) := ⟨_, _, HGF8.out⟩
            have f0 := HF8.out.2.2 0 _ rfl
            have f1 := HF8.out.2.2 1 _ rfl
            have fz := HF8.out.1
            have e0 := HQ8.out.2.2 0 _ rfl
            have e1 := HQ8.out.2.2 1 _ rfl
            have ef0 := HQ8.out.2.1 0
            have ef1 := HQ8.out.2.1 1
            have ez := HQ8.out.1
            have n_ : gt ≠ gq := by omega
            have zq9 : w.heap.size ≤ gq := Nat.le_of_eq HGQ.out.symm
            have BS := HS8.out
            have sBS := BS.2.2.2.1
            have hRB : ∀ W2, Below gq v0_2 W2 → Rd W2 r s n c q12 := fun W2 hb => Rd.below' HR8.out (hb.mono (by omega))
            have hGB : ∀ W2, Beside gq v0_2 W2 → GtL w.heap.size W2 (.slice (some ⟨g, 0, none⟩) k cv) k := fun W2 hb => (HGL.out.beside hb (by omega)).low (by omega)
            have hst := store_slT
            go_wp2
            refine bodyPost_ret (v := .agg #[.int .i64 x, .slice (some ⟨g, 0, none⟩) k cv]) (by simp [results, Try.results41, go_sem, f0, f1, e0, e1, n_, n_.symm]) rfl ?_
            exact ⟨x, (some ⟨g, 0, none⟩), k, cv, q12, rfl, by omega, wfi (by omega) (by omega), hGB _ ((Beside.setCell gq _ 0 _).trans (Beside.setCell gq _ 1 _)), hRB _ (show Below gq v0_2 _ from (by repeat (first | with_reducible exact Below.refl _ _ | with_reducible refine Below.setCell ?_ (by first | omega | (simp; done) | (simp; omega)) _ | with_reducible refine bDrewN ?_ _ | with_reducible refine Below.drew ?_ | with_reducible refine Below.alloc ?_ (by first | omega | (simp; done) | (simp; omega)) _))), BS.onB (show Below w.heap.size v0_2 _ from (by repeat (first | with_reducible exact Below.refl _ _ | with_reducible refine Below.setCell ?_ (by first | omega | (simp; done) | (simp; omega)) _ | with_reducible refine bDrewN ?_ _ | with_reducible refine Below.drew ?_ | with_reducible refine Below.alloc ?_ (by first | omega | (simp; done) | (simp; omega)) _)))⟩
          have ne0 : (sw == 0) = false := by simpa using e0
          by_cases e1 : sw = 1
          case pos =>
            subst e1
            clear sw0
            obtain ⟨x9, kk, cc, U9, ea, eb, L9, kk1, -⟩ := HGF.out.2 i0 i0k
            have kk6 : kk ≤ 6 := H6.out i0 i0k _ _ _ eb
            have HFI : Hid (f (i0 * 2 + 1) = .slice (some ⟨A i0, 0, none⟩) kk cc) := eb
            have kk1' : (1 : Int) ≤ (kk : Int) := by omega
            clear ea eb
            have HL9 : Hid (Lst B 2 1 y5 (.slice (some ⟨A i0, 0, none⟩) kk cc) kk U9) := L9
            clear L9
            go_upto_region 19 with fail
            refine wp_region_held_drew (S := fun w' => w'.cell? ⟨gt, 0, none⟩ = some (.int .i64 x) ∧ w'.cell? ⟨gt, 1, none⟩ = some (.slice (some ⟨g, 0, none⟩) k cv) ∧ gt < w'.heap.size) (by kernel_rfl) ?_ (fun hHeld => ?_)
            · exact ⟨HF.out.2.2 0 _ rfl, HF.out.2.2 1 _ rfl, HF.out.1⟩
            obtain ⟨v0, hv0⟩ : ∃ z, z = y5.drew := ⟨_, rfl⟩
            try rw [← hv0] at hHeld
            rw [← hv0]
            have bv0 : Below y5.heap.size y5 v0 := by rw [hv0]; exact Below.drew (Below.refl _ _)
            clear hv0
            replace HR : Hid (Rd v0 r s n c q11) := HR.out.below bv0
            replace HS : Hid (Beside r w v0) := HS.out.trans (Beside.of bv0)
            replace HQ : Hid (Blk v0 gq [.int .i64 0, .slice none 0 0]) := HQ.out.below bv0
            replace HF : Hid (Blk v0 gt [.int .i64 x, .slice (some ⟨g, 0, none⟩) k cv]) := HF.out.below bv0
            replace HZ : Hid (B ≤ v0.heap.size) := Nat.le_trans HZ.out bv0.size
            replace HGF : Hid (GtF B v0 (.slice (some ⟨g, 0, none⟩) k cv) k f A) := HGF.out.below bv0
            replace HL9 : Hid (Lst B 2 1 v0 (.slice (some ⟨A i0, 0, none⟩) kk cc) kk U9) := HL9.out.below bv0
            clear bv0
            refine wpAnyH_take (i := 0) (v := .pointer (some ⟨gt, 1, none⟩)) rfl (by kernel_rfl) (by kernel_rfl) (by kernel_rfl) (fun _ _ _ h => h) (Or.inl ⟨by kernel_rfl, ?_⟩) hHeld ?_
            · intro w' hSw
              obtain ⟨hc0, hc1, hz1⟩ := hSw
              first | (go_simp; done) | (go_simp; with_reducible rfl) | (go_simp; rw [IntKind.wrap_i64]; omega) | (go_simp; omega)
            simp only [Act.put, List.setIfInBounds_toArray, List.set_cons_zero, List.set_cons_succ]
            refine wpAnyH_take (i := 1) (v := .slice (some ⟨g, 0, none⟩) k cv) rfl (by kernel_rfl) (by kernel_rfl) (by kernel_rfl) (fun _ _ _ h => h) (Or.inl ⟨by kernel_rfl, ?_⟩) hHeld ?_
            · intro w' hSw
              obtain ⟨hc0, hc1, hz1⟩ := hSw
              first | (go_simp; done) | (go_simp; with_reducible rfl) | (go_simp; rw [IntKind.wrap_i64]; omega) | (go_simp; omega)
            simp only [Act.put, List.setIfInBounds_toArray, List.set_cons_zero, List.set_cons_succ]
            refine wpAnyH_take (i := 2) (v := .int .i64 (i0 : Int)) rfl (by kernel_rfl) (by kernel_rfl) (by kernel_rfl) (fun _ _ _ h => h) (Or.inl ⟨by kernel_rfl, ?_⟩) hHeld ?_
            · intro w' hSw
              obtain ⟨hc0, hc1, hz1⟩ := hSw
              first | (go_simp; done) | (go_simp; with_reducible rfl) | (go_simp; rw [IntKind.wrap_i64]; omega) | (go_simp; omega)
            simp only [Act.put, List.setIfInBounds_toArray, List.set_cons_zero, List.set_cons_succ]
            refine wpAnyH_take (i := 3) (v := .pointer (some ⟨gt, 1, none⟩)) rfl (by kernel_rfl) (by kernel_rfl) (by kernel_rfl) (fun _ _ _ h => h) (Or.inl ⟨by kernel_rfl, ?_⟩) hHeld ?_
            · intro w' hSw
              obtain ⟨hc0, hc1, hz1⟩ := hSw
              first | (go_simp; done) | (go_simp; with_reducible rfl) | (go_simp; rw [IntKind.wrap_i64]; omega) | (go_simp; omega)
            simp only [Act.put, List.setIfInBounds_toArray, List.set_cons_zero, List.set_cons_succ]
            refine wpAnyH_take (i := 4) (v := .slice (some ⟨g, 0, none⟩) k cv) rfl (by kernel_rfl) (by kernel_rfl) (by kernel_rfl) (fun _ _ _ h => h) (Or.inl ⟨by kernel_rfl, ?_⟩) hHeld ?_
            · intro w' hSw
              obtain ⟨hc0, hc1, hz1⟩ := hSw
              first | (go_simp; done) | (go_simp; with_reducible rfl) | (go_simp; rw [IntKind.wrap_i64]; omega) | (go_simp; omega)
            simp only [Act.put, List.setIfInBounds_toArray, List.set_cons_zero, List.set_cons_succ]
            refine wpAnyH_take (i := 5) (v := .int .i64 (i0 : Int)) rfl (by kernel_rfl) (by kernel_rfl) (by kernel_rfl) (fun _ _ _ h => h) (Or.inl ⟨by kernel_rfl, ?_⟩) hHeld ?_
            · intro w' hSw
              obtain ⟨hc0, hc1, hz1⟩ := hSw
              first | (go_simp; done) | (go_simp; with_reducible rfl) | (go_simp; rw [IntKind.wrap_i64]; omega) | (go_simp; omega)
            simp only [Act.put, List.setIfInBounds_toArray, List.set_cons_zero, List.set_cons_succ]
            refine wpAnyH_take (i := 6) (v := .pointer (some ⟨g, i0 * 2, none⟩)) rfl (by kernel_rfl) (by kernel_rfl) (by kernel_rfl) (fun _ _ _ h => h) (Or.inl ⟨by kernel_rfl, ?_⟩) hHeld ?_
            · intro w' hSw
              obtain ⟨hc0, hc1, hz1⟩ := hSw
              first | (go_simp; done) | (go_simp; with_reducible rfl) | (go_simp; rw [IntKind.wrap_i64]; omega) | (go_simp; omega)
            simp only [Act.put, List.setIfInBounds_toArray, List.set_cons_zero, List.set_cons_succ]
            refine wpAnyH_take (i := 7) (v := .pointer (some ⟨g, i0 * 2 + 1, none⟩)) rfl (by kernel_rfl) (by kernel_rfl) (by kernel_rfl) (fun _ _ _ h => h) (Or.inl ⟨by kernel_rfl, ?_⟩) hHeld ?_
            · intro w' hSw
              obtain ⟨hc0, hc1, hz1⟩ := hSw
              first | (go_simp; done) | (go_simp; with_reducible rfl) | (go_simp; rw [IntKind.wrap_i64]; omega) | (go_simp; omega)
            simp only [Act.put, List.setIfInBounds_toArray, List.set_cons_zero, List.set_cons_succ]
            refine wpAnyH_take (i := 9) (v := .pointer (some ⟨gt, 0, none⟩)) rfl (by kernel_rfl) (by kernel_rfl) (by kernel_rfl) (fun _ _ _ h => h) (Or.inl ⟨by kernel_rfl, ?_⟩) hHeld ?_
            · intro w' hSw
              obtain ⟨hc0, hc1, hz1⟩ := hSw
              first | (go_simp; done) | (go_simp; with_reducible rfl) | (go_simp; rw [IntKind.wrap_i64]; omega) | (go_simp; omega)
            simp only [Act.put, List.setIfInBounds_toArray, List.set_cons_zero, List.set_cons_succ]
            refine wpAnyH_take (i := 10) (v := .int .i64 x) rfl (by kernel_rfl) (by kernel_rfl) (by kernel_rfl) (fun _ _ _ h => h) (Or.inl ⟨by kernel_rfl, ?_⟩) hHeld ?_
            · intro w' hSw
              obtain ⟨hc0, hc1, hz1⟩ := hSw
              first | (go_simp; done) | (go_simp; with_reducible rfl) | (go_simp; rw [IntKind.wrap_i64]; omega) | (go_simp; omega)
            simp only [Act.put, List.setIfInBounds_toArray, List.set_cons_zero, List.set_cons_succ]
            refine wpAnyH_take (i := 11) (v := .int .i64 (i0 : Int)) rfl (by kernel_rfl) (by kernel_rfl) (by kernel_rfl) (fun _ _ _ h => h) (Or.inl ⟨by kernel_rfl, ?_⟩) hHeld ?_
            · intro w' hSw
              obtain ⟨hc0, hc1, hz1⟩ := hSw
              first | (go_simp; done) | (go_simp; with_reducible rfl) | (go_simp; rw [IntKind.wrap_i64]; omega) | (go_simp; omega)
            simp only [Act.put, List.setIfInBounds_toArray, List.set_cons_zero, List.set_cons_succ]
            refine wpAnyH_take (i := 12) (v := .int .i64 (x + (i0 : Int))) rfl (by kernel_rfl) (by kernel_rfl) (by kernel_rfl) (fun _ _ _ h => h) (Or.inl ⟨by kernel_rfl, ?_⟩) hHeld ?_
            · intro w' hSw
              obtain ⟨hc0, hc1, hz1⟩ := hSw
              first | (go_simp; done) | (go_simp; with_reducible rfl) | (go_simp; rw [IntKind.wrap_i64]; omega) | (go_simp; omega)
            simp only [Act.put, List.setIfInBounds_toArray, List.set_cons_zero, List.set_cons_succ]
            refine wpAnyH_ready (rs := [8, 13]) (by kernel_rfl) (by simp) ?_
            refine (AllReadyH.cons rfl (fun KK hK => ?_) (AllReadyH.cons rfl (fun KK hK => ?_) AllReadyH.nil))
            · have hl_ : v0.cell? ⟨g, i0 * 2 + 1, none⟩ = some (.slice (some ⟨A i0, 0, none⟩) kk cc) := (by have t_ := GtF.cell HGF.out (show i0 * 2 + 1 < k * 2 by omega); rw [HFI.out] at t_; exact t_)
              have hg_ : g < v0.heap.size := (World.ownsRow.lt HGF.out.1 g rfl).2
              go_simp
              clear hl_ hg_
              refine hK.out _ _ (⟨HF.out.2.2 0 _ rfl, HF.out.2.2 1 _ rfl, HF.out.1⟩) (fun hHeld => ?_)
              clear hK KK
              refine wpAnyH_ready (rs := [13]) (by kernel_rfl) (by simp) ?_
              refine (AllReadyH.cons rfl (fun KK hK => ?_) AllReadyH.nil)
              go_simp
              obtain ⟨v0_2, hv_⟩ : ∃ z, z = v0.alloc (.cells #[.int .i64 (x + (i0 : Int))] 2) := ⟨_, rfl⟩
              rw [← hv_]
              obtain ⟨lb, hlb⟩ : ∃ z, z = v0.heap.size := ⟨_, rfl⟩
              have b_ : Below v0.heap.size v0 v0_2 := by rw [hv_]; exact below0 _ _
              have LB0 : v0_2.cell? ⟨lb, 0, none⟩ = some (.int .i64 (x + (i0 : Int))) := by rw [hv_, hlb]; simp [go_sem]
              replace HR : Hid (Rd v0_2 r s n c q11) := HR.out.below b_
              replace HS : Hid (Beside r w v0_2) := HS.out.trans (Beside.of b_)
              replace HQ : Hid (Blk v0_2 gq [.int .i64 0, .slice none 0 0]) := HQ.out.below b_
              replace HF : Hid (Blk v0_2 gt [.int .i64 x, .slice (some ⟨g, 0, none⟩) k cv]) := HF.out.below b_
              replace HZ : Hid (B ≤ v0_2.heap.size) := Nat.le_trans HZ.out b_.size
              replace HGF : Hid (GtF B v0_2 (.slice (some ⟨g, 0, none⟩) k cv) k f A) := HGF.out.below b_
              replace HL9 : Hid (Lst B 2 1 v0_2 (.slice (some ⟨A i0, 0, none⟩) kk cc) kk U9) := HL9.out.below b_
              try rw [← hlb]
              clear hv_ hlb b_
              refine hK.out _ _ (⟨HF.out.2.2 0 _ rfl, HF.out.2.2 1 _ rfl, HF.out.1⟩) (fun hHeld => ?_)
              clear hK KK
              refine wpAnyH_ready (rs := [14]) (by kernel_rfl) (by simp) ?_
              refine (AllReadyH.cons rfl (fun KK hK => ?_) AllReadyH.nil)
              obtain ⟨i9, hi, hz0, hz1, hz2⟩ := info_parts info_i64L
              refine wp_append_lies _ (.tmp 128) (.tmp 133) 30 (by rfl) B 2 i9 (.int .i64 0) 1 8 Try.underlying30 hi hz0 hz1 hz2 rfl (by decide) (.slice (some ⟨A i0, 0, none⟩) kk cc) kk _ (by rfl) HL9.out ⟨lb, 0, none⟩ 1 1 [.int .i64 (x + (i0 : Int))] (by rfl) rfl (news_oneG LB0) (by intro u hu; simp at hu; subst hu; rfl) (by decide) (by unfold maxLen; omega) (by omega) HZ.out _ rfl ?_
              intro g9 cap9 v0_3 hown9 hgrow9 _ _
              have HL7 : Hid (Lst B 2 1 v0_3 (.slice (some ⟨g9, 0, none⟩) (kk + 1) cap9) (kk + 1) (putL U9 1 kk [x + (i0 : Int)])) := HL9.out.on (xs := [x + (i0 : Int)]) rfl hown9
              have b_ : Below B v0_2 v0_3 := grown_below hgrow9 HZ.out (own_block HL9.out)
              have HP1 : Hid (v0_3.heap[g]? = v0_2.heap[g]? ∧ GtL B (v0_3.setCell ⟨g, i0 * 2 + 1, none⟩ (.slice (some ⟨g9, 0, none⟩) (kk + 1) cap9)) (.slice (some ⟨g, 0, none⟩) k cv) k) := GtF.put1 HGF.out HINJ.out i0k hgrow9 HL7.out (by omega) (by omega)
              have HQ9 : Hid (Blk v0_3 gq [.int .i64 0, .slice none 0 0]) := HQ.out.belowB b_ (by omega)
              have HF9 : Hid (Blk v0_3 gt [.int .i64 x, .slice (some ⟨g, 0, none⟩) k cv]) := HF.out.belowB b_ (by omega)
              have HS9 : Hid (Beside r w v0_3) := HS.out.onB (b_.mono (by have := HGQ.out; omega))
              have HR9 : Hid (Rd v0_3 r s n c q11) := Rd.below' HR.out (b_.mono (by omega))
              have HC9 : Hid (v0_3.cell? ⟨g, i0 * 2 + 1, none⟩ = some (.slice (some ⟨A i0, 0, none⟩) kk cc) ∧ v0_3.frozen? ⟨g, i0 * 2 + 1, none⟩ = false ∧ g < v0_3.heap.size) := ⟨(show v0_3.cell? ⟨g, i0 * 2 + 1, none⟩ = v0_2.cell? ⟨g, i0 * 2 + 1, none⟩ from World.cell?_of_block (w := v0_2) HP1.out.1).trans (by have t_ := GtF.cell HGF.out (show i0 * 2 + 1 < k * 2 by omega); rw [HFI.out] at t_; exact t_), (show v0_3.frozen? ⟨g, i0 * 2 + 1, none⟩ = v0_2.frozen? ⟨g, i0 * 2 + 1, none⟩ from World.frozen?_of_block (w := v0_2) HP1.out.1).trans (HGF.out.1.frozenAt _), Nat.lt_of_lt_of_le (World.ownsRow.lt HGF.out.1 g rfl).2 hgrow9.size⟩
              clear hown9 hgrow9 b_ LB0 hi hz0 hz1 hz2
              go_simp
              refine hK.out _ _ (⟨HF9.out.2.2 0 _ rfl, HF9.out.2.2 1 _ rfl, HF9.out.1⟩) (fun hHeld => ?_)
              clear hK KK
              refine wpAnyH_take (i := 15) (v := .pointer (some ⟨g, i0 * 2, none⟩)) rfl (by kernel_rfl) (by kernel_rfl) (by kernel_rfl) (fun _ _ _ h => h) (Or.inl ⟨by kernel_rfl, ?_⟩) hHeld ?_
              · intro w' hSw
                obtain ⟨hc0, hc1, hz1⟩ := hSw
                first | (go_simp; done) | (go_simp; with_reducible rfl) | (go_simp; rw [IntKind.wrap_i64]; omega) | (go_simp; omega)
              simp only [Act.put, List.setIfInBounds_toArray, List.set_cons_zero, List.set_cons_succ]
              refine wpAnyH_take (i := 16) (v := .pointer (some ⟨g, i0 * 2 + 1, none⟩)) rfl (by kernel_rfl) (by kernel_rfl) (by kernel_rfl) (fun _ _ _ h => h) (Or.inl ⟨by kernel_rfl, ?_⟩) hHeld ?_
              · intro w' hSw
                obtain ⟨hc0, hc1, hz1⟩ := hSw
                first | (go_simp; done) | (go_simp; with_reducible rfl) | (go_simp; rw [IntKind.wrap_i64]; omega) | (go_simp; omega)
              simp only [Act.put, List.setIfInBounds_toArray, List.set_cons_zero, List.set_cons_succ]
              refine wpAnyH_ready (rs := [17]) (by kernel_rfl) (by simp) ?_
              refine (AllReadyH.cons rfl (fun KK hK => ?_) AllReadyH.nil)
              have hl_ := HC9.out.1
              have hf_ := HC9.out.2.1
              have hg_ := HC9.out.2.2
              have hst := store_slT
              go_simp
              obtain ⟨v0_4, hv_⟩ : ∃ z, z = v0_3.setCell ⟨g, i0 * 2 + 1, none⟩ (.slice (some ⟨g9, 0, none⟩) (kk + 1) cap9) := ⟨_, rfl⟩
              rw [← hv_]
              have bs_ : Beside g v0_3 v0_4 := by rw [hv_]; exact Beside.setCell g _ _ _
              have HGL8 : Hid (GtL B v0_4 (.slice (some ⟨g, 0, none⟩) k cv) k) := by show GtL _ _ _ _; rw [hv_]; exact HP1.out.2
              have zr9 : r < v0_3.heap.size := HR9.out.1
              have HQ8 : Hid (Blk v0_4 gq [.int .i64 0, .slice none 0 0]) := HQ9.out.beside bs_ (by omega)
              have HF8 : Hid (Blk v0_4 gt [.int .i64 x, .slice (some ⟨g, 0, none⟩) k cv]) := HF9.out.beside bs_ (by omega)
              have HS8 : Hid (Beside r w v0_4) := HS9.out.onB (bs_.below (by have := HGQ.out; omega) (HS9.out.2.2.2.1))
              have HR8 : Hid (Rd v0_4 r s n c q11) := Rd.below' HR9.out (bs_.below (by omega) (by omega))
              clear hv_ bs_ zr9 hl_ hf_ hst
              refine hK.out _ _ (⟨HF8.out.2.2 0 _ rfl, HF8.out.2.2 1 _ rfl, HF8.out.1⟩) (fun hHeld => ?_)
              clear hK KK
              refine wpAnyH_done (by kernel_rfl) ?_ _
              clear hHeld
              have HGL_ : Hid (GtL B v0_4 (.slice (some ⟨g, 0, none⟩) k cv) k) := HGL8
              have f0 := HF8.out.2.2 0 _ rfl
              have f1 := HF8.out.2.2 1 _ rfl
              have fz := HF8.out.1
              have e0 := HQ8.out.2.2 0 _ rfl
              have e1 := HQ8.out.2.2 1 _ rfl
              have ef0 := HQ8.out.2.1 0
              have ef1 := HQ8.out.2.1 1
              have ez := HQ8.out.1
              have n_ : gt ≠ gq := by omega
              have zq9 : w.heap.size ≤ gq := Nat.le_of_eq HGQ.out.symm
              have BS := HS8.out
              have sBS := BS.2.2.2.1
              have hRB : ∀ W2, Below gq v0_4 W2 → Rd W2 r s n c q11 := fun W2 hb => Rd.below' HR8.out (hb.mono (by omega))
              have hGB : ∀ W2, Beside gq v0_4 W2 → GtL w.heap.size W2 (.slice (some ⟨g, 0, none⟩) k cv) k := fun W2 hb => (HGL8.out.beside hb (by omega)).low (by omega)
              have hst := store_slT
              go_wp2
              refine bodyPost_ret (v := .agg #[.int .i64 x, .slice (some ⟨g, 0, none⟩) k cv]) (by simp [results, Try.results41, go_sem, f0, f1, e0, e1, n_, n_.symm]) rfl ?_
              exact ⟨x, (some ⟨g, 0, none⟩), k, cv, q11, rfl, by omega, wfi (by omega) (by omega), hGB _ ((Beside.setCell gq _ 0 _).trans (Beside.setCell gq _ 1 _)), hRB _ (show Below gq v0_4 _ from (by repeat (first | with_reducible exact Below.refl _ _ | with_reducible refine Below.setCell ?_ (by first | omega | (simp; done) | (simp; omega)) _ | with_reducible refine bDrewN ?_ _ | with_reducible refine Below.drew ?_ | with_reducible refine Below.alloc ?_ (by first | omega | (simp; done) | (simp; omega)) _))), BS.onB (show Below w.heap.size v0_4 _ from (by repeat (first | with_reducible exact Below.refl _ _ | with_reducible refine Below.setCell ?_ (by first | omega | (simp; done) | (simp; omega)) _ | with_reducible refine bDrewN ?_ _ | with_reducible refine Below.drew ?_ | with_reducible refine Below.alloc ?_ (by first | omega | (simp; done) | (simp; omega)) _)))⟩
            · go_simp
              obtain ⟨v0_5, hv_⟩ : ∃ z, z = v0.alloc (.cells #[.int .i64 (x + (i0 : Int))] 2) := ⟨_, rfl⟩
              rw [← hv_]
              obtain ⟨lb, hlb⟩ : ∃ z, z = v0.heap.size := ⟨_, rfl⟩
              have b_ : Below v0.heap.size v0 v0_5 := by rw [hv_]; exact below0 _ _
              have LB0 : v0_5.cell? ⟨lb, 0, none⟩ = some (.int .i64 (x + (i0 : Int))) := by rw [hv_, hlb]; simp [go_sem]
              replace HR : Hid (Rd v0_5 r s n c q11) := HR.out.below b_
              replace HS : Hid (Beside r w v0_5) := HS.out.trans (Beside.of b_)
              replace HQ : Hid (Blk v0_5 gq [.int .i64 0, .slice none 0 0]) := HQ.out.below b_
              replace HF : Hid (Blk v0_5 gt [.int .i64 x, .slice (some ⟨g, 0, none⟩) k cv]) := HF.out.below b_
              replace HZ : Hid (B ≤ v0_5.heap.size) := Nat.le_trans HZ.out b_.size
              replace HGF : Hid (GtF B v0_5 (.slice (some ⟨g, 0, none⟩) k cv) k f A) := HGF.out.below b_
              replace HL9 : Hid (Lst B 2 1 v0_5 (.slice (some ⟨A i0, 0, none⟩) kk cc) kk U9) := HL9.out.below b_
              try rw [← hlb]
              clear hv_ hlb b_
              refine hK.out _ _ (⟨HF.out.2.2 0 _ rfl, HF.out.2.2 1 _ rfl, HF.out.1⟩) (fun hHeld => ?_)
              clear hK KK
              refine wpAnyH_ready (rs := [8]) (by kernel_rfl) (by simp) ?_
              refine (AllReadyH.cons rfl (fun KK hK => ?_) AllReadyH.nil)
              have hl_ : v0_5.cell? ⟨g, i0 * 2 + 1, none⟩ = some (.slice (some ⟨A i0, 0, none⟩) kk cc) := (by have t_ := GtF.cell HGF.out (show i0 * 2 + 1 < k * 2 by omega); rw [HFI.out] at t_; exact t_)
              have hg_ : g < v0_5.heap.size := (World.ownsRow.lt HGF.out.1 g rfl).2
              go_simp
              clear hl_ hg_
              refine hK.out _ _ (⟨HF.out.2.2 0 _ rfl, HF.out.2.2 1 _ rfl, HF.out.1⟩) (fun hHeld => ?_)
              clear hK KK
              refine wpAnyH_ready (rs := [14]) (by kernel_rfl) (by simp) ?_
              refine (AllReadyH.cons rfl (fun KK hK => ?_) AllReadyH.nil)
              obtain ⟨i9, hi, hz0, hz1, hz2⟩ := info_parts info_i64L
              refine wp_append_lies _ (.tmp 128) (.tmp 133) 30 (by rfl) B 2 i9 (.int .i64 0) 1 8 Try.underlying30 hi hz0 hz1 hz2 rfl (by decide) (.slice (some ⟨A i0, 0, none⟩) kk cc) kk _ (by rfl) HL9.out ⟨lb, 0, none⟩ 1 1 [.int .i64 (x + (i0 : Int))] (by rfl) rfl (news_oneG LB0) (by intro u hu; simp at hu; subst hu; rfl) (by decide) (by unfold maxLen; omega) (by omega) HZ.out _ rfl ?_
              intro g9 cap9 v0_7 hown9 hgrow9 _ _
              have HL7 : Hid (Lst B 2 1 v0_7 (.slice (some ⟨g9, 0, none⟩) (kk + 1) cap9) (kk + 1) (putL U9 1 kk [x + (i0 : Int)])) := HL9.out.on (xs := [x + (i0 : Int)]) rfl hown9
              have b_ : Below B v0_5 v0_7 := grown_below hgrow9 HZ.out (own_block HL9.out)
              have HP1 : Hid (v0_7.heap[g]? = v0_5.heap[g]? ∧ GtL B (v0_7.setCell ⟨g, i0 * 2 + 1, none⟩ (.slice (some ⟨g9, 0, none⟩) (kk + 1) cap9)) (.slice (some ⟨g, 0, none⟩) k cv) k) := GtF.put1 HGF.out HINJ.out i0k hgrow9 HL7.out (by omega) (by omega)
              have HQ9 : Hid (Blk v0_7 gq [.int .i64 0, .slice none 0 0]) := HQ.out.belowB b_ (by omega)
              have HF9 : Hid (Blk v0_7 gt [.int .i64 x, .slice (some ⟨g, 0, none⟩) k cv]) := HF.out.belowB b_ (by omega)
              have HS9 : Hid (Beside r w v0_7) := HS.out.onB (b_.mono (by have := HGQ.out; omega))
              have HR9 : Hid (Rd v0_7 r s n c q11) := Rd.below' HR.out (b_.mono (by omega))
              have HC9 : Hid (v0_7.cell? ⟨g, i0 * 2 + 1, none⟩ = some (.slice (some ⟨A i0, 0, none⟩) kk cc) ∧ v0_7.frozen? ⟨g, i0 * 2 + 1, none⟩ = false ∧ g < v0_7.heap.size) := ⟨(show v0_7.cell? ⟨g, i0 * 2 + 1, none⟩ = v0_5.cell? ⟨g, i0 * 2 + 1, none⟩ from World.cell?_of_block (w := v0_5) HP1.out.1).trans (by have t_ := GtF.cell HGF.out (show i0 * 2 + 1 < k * 2 by omega); rw [HFI.out] at t_; exact t_), (show v0_7.frozen? ⟨g, i0 * 2 + 1, none⟩ = v0_5.frozen? ⟨g, i0 * 2 + 1, none⟩ from World.frozen?_of_block (w := v0_5) HP1.out.1).trans (HGF.out.1.frozenAt _), Nat.lt_of_lt_of_le (World.ownsRow.lt HGF.out.1 g rfl).2 hgrow9.size⟩
              clear hown9 hgrow9 b_ LB0 hi hz0 hz1 hz2
              go_simp
              refine hK.out _ _ (⟨HF9.out.2.2 0 _ rfl, HF9.out.2.2 1 _ rfl, HF9.out.1⟩) (fun hHeld => ?_)
              clear hK KK
              refine wpAnyH_take (i := 15) (v := .pointer (some ⟨g, i0 * 2, none⟩)) rfl (by kernel_rfl) (by kernel_rfl) (by kernel_rfl) (fun _ _ _ h => h) (Or.inl ⟨by kernel_rfl, ?_⟩) hHeld ?_
              · intro w' hSw
                obtain ⟨hc0, hc1, hz1⟩ := hSw
                first | (go_simp; done) | (go_simp; with_reducible rfl) | (go_simp; rw [IntKind.wrap_i64]; omega) | (go_simp; omega)
              simp only [Act.put, List.setIfInBounds_toArray, List.set_cons_zero, List.set_cons_succ]
              refine wpAnyH_take (i := 16) (v := .pointer (some ⟨g, i0 * 2 + 1, none⟩)) rfl (by kernel_rfl) (by kernel_rfl) (by kernel_rfl) (fun _ _ _ h => h) (Or.inl ⟨by kernel_rfl, ?_⟩) hHeld ?_
              · intro w' hSw
                obtain ⟨hc0, hc1, hz1⟩ := hSw
                first | (go_simp; done) | (go_simp; with_reducible rfl) | (go_simp; rw [IntKind.wrap_i64]; omega) | (go_simp; omega)
              simp only [Act.put, List.setIfInBounds_toArray, List.set_cons_zero, List.set_cons_succ]
              refine wpAnyH_ready (rs := [17]) (by kernel_rfl) (by simp) ?_
              refine (AllReadyH.cons rfl (fun KK hK => ?_) AllReadyH.nil)
              have hl_ := HC9.out.1
              have hf_ := HC9.out.2.1
              have hg_ := HC9.out.2.2
              have hst := store_slT
              go_simp
              obtain ⟨v0_8, hv_⟩ : ∃ z, z = v0_7.setCell ⟨g, i0 * 2 + 1, none⟩ (.slice (some ⟨g9, 0, none⟩) (kk + 1) cap9) := ⟨_, rfl⟩
              rw [← hv_]
              have bs_ : Beside g v0_7 v0_8 := by rw [hv_]; exact Beside.setCell g _ _ _
              have HGL8 : Hid (GtL B v0_8 (.slice (some ⟨g, 0, none⟩) k cv) k) := by show GtL _ _ _ _; rw [hv_]; exact HP1.out.2
              have zr9 : r < v0_7.heap.size := HR9.out.1
              have HQ8 : Hid (Blk v0_8 gq [.int .i64 0, .slice none 0 0]) := HQ9.out.beside bs_ (by omega)
              have HF8 : Hid (Blk v0_8 gt [.int .i64 x, .slice (some ⟨g, 0, none⟩) k cv]) := HF9.out.beside bs_ (by omega)
              have HS8 : Hid (Beside r w v0_8) := HS9.out.onB (bs_.below (by have := HGQ.out; omega) (HS9.out.2.2.2.1))
              have HR8 : Hid (Rd v0_8 r s n c q11) := Rd.below' HR9.out (bs_.below (by omega) (by omega))
              clear hv_ bs_ zr9 hl_ hf_ hst
              refine hK.out _ _ (⟨HF8.out.2.2 0 _ rfl, HF8.out.2.2 1 _ rfl, HF8.out.1⟩) (fun hHeld => ?_)
              clear hK KK
              refine wpAnyH_done (by kernel_rfl) ?_ _
              clear hHeld
              have HGL_ : Hid (GtL B v0_8 (.slice (some ⟨g, 0, none⟩) k cv) k) := HGL8
              have f0 := HF8.out.2.2 0 _ rfl
              have f1 := HF8.out.2.2 1 _ rfl
              have fz := HF8.out.1
              have e0 := HQ8.out.2.2 0 _ rfl
              have e1 := HQ8.out.2.2 1 _ rfl
              have ef0 := HQ8.out.2.1 0
              have ef1 := HQ8.out.2.1 1
              have ez := HQ8.out.1
              have n_ : gt ≠ gq := by omega
              have zq9 : w.heap.size ≤ gq := Nat.le_of_eq HGQ.out.symm
              have BS := HS8.out
              have sBS := BS.2.2.2.1
              have hRB : ∀ W2, Below gq v0_8 W2 → Rd W2 r s n c q11 := fun W2 hb => Rd.below' HR8.out (hb.mono (by omega))
              have hGB : ∀ W2, Beside gq v0_8 W2 → GtL w.heap.size W2 (.slice (some ⟨g, 0, none⟩) k cv) k := fun W2 hb => (HGL8.out.beside hb (by omega)).low (by omega)
              have hst := store_slT
              go_wp2
              refine bodyPost_ret (v := .agg #[.int .i64 x, .slice (some ⟨g, 0, none⟩) k cv]) (by simp [results, Try.results41, go_sem, f0, f1, e0, e1, n_, n_.symm]) rfl ?_
              exact ⟨x, (some ⟨g, 0, none⟩), k, cv, q11, rfl, by omega, wfi (by omega) (by omega), hGB _ ((Beside.setCell gq _ 0 _).trans (Beside.setCell gq _ 1 _)), hRB _ (show Below gq v0_8 _ from (by repeat (first | with_reducible exact Below.refl _ _ | with_reducible refine Below.setCell ?_ (by first | omega | (simp; done) | (simp; omega)) _ | with_reducible refine bDrewN ?_ _ | with_reducible refine Below.drew ?_ | with_reducible refine Below.alloc ?_ (by first | omega | (simp; done) | (simp; omega)) _))), BS.onB (show Below w.heap.size v0_8 _ from (by repeat (first | with_reducible exact Below.refl _ _ | with_reducible refine Below.setCell ?_ (by first | omega | (simp; done) | (simp; omega)) _ | with_reducible refine bDrewN ?_ _ | with_reducible refine Below.drew ?_ | with_reducible refine Below.alloc ?_ (by first | omega | (simp; done) | (simp; omega)) _)))⟩
          have ne1 : (sw == 1) = false := by simpa using e1
          by_cases e2 : sw = 2
          case pos =>
            subst e2
            clear sw0
            go_upto_region 21 with fail
            go_wp2_with fail
            refine (off_any 1 10 (by omega) (by omega) (by omega) HR).mono ?_
            rintro e y6 ⟨nx, q12, rfl, nwf, R_, b_⟩
            have zr_ : r < y5.heap.size := HR.out.1
            replace HS : Hid (Beside r w y6) := HS.out.trans b_
            replace HQ : Hid (Blk y6 gq [.int .i64 0, .slice none 0 0]) := HQ.out.beside b_ (by omega)
            replace HF : Hid (Blk y6 gt [.int .i64 x, .slice (some ⟨g, 0, none⟩) k cv]) := HF.out.beside b_ (by omega)
            replace HZ : Hid (B ≤ y6.heap.size) := Nat.le_trans HZ.out b_.2.2.2.1
            replace HGF : Hid (GtF B y6 (.slice (some ⟨g, 0, none⟩) k cv) k f A) := HGF.out.beside b_ (by omega)
            replace HR : Hid (Rd y6 r s n c q12) := R_
            clear R_ b_ zr_
            have f0 := HF.out.2.2 0 _ rfl
            have f0f := HF.out.2.1 0
            have fz := HF.out.1
            go_upto_region 30 with fail
            obtain ⟨z9, hz9⟩ : ∃ z, z = y6.setCell ⟨gt, 0, none⟩ (.int .i64 nx) := ⟨_, rfl⟩
            rw [← hz9]
            have bs_ : Beside gt y6 z9 := by rw [hz9]; exact Beside.setCell gt _ _ _
            have zr9 : r < y6.heap.size := HR.out.1
            have HF8 : Hid (Blk z9 gt [.int .i64 nx, .slice (some ⟨g, 0, none⟩) k cv]) := by show Blk _ _ _; rw [hz9]; exact HF.out.set 0 _
            have HQ8 : Hid (Blk z9 gq [.int .i64 0, .slice none 0 0]) := HQ.out.beside bs_ (by omega)
            have HGF8 : Hid (GtF B z9 (.slice (some ⟨g, 0, none⟩) k cv) k f A) := HGF.out.beside bs_ (by omega)
            have HS8 : Hid (Beside r w z9) := HS.out.onB (bs_.below (by have := HGQ.out; omega) (HS.out.2.2.2.1))
            have HR8 : Hid (Rd z9 r s n c q12) := Rd.below' HR.out (bs_.below (by omega) (by omega))
            clear hz9 bs_ zr9 f0 f0f fz
            have HGL : Hid (GtL B z9 (.slice (some ⟨g, 0, none⟩) k cv) k) := ⟨_, _, HGF8.out⟩
            have f0 := HF8.out.2.2 0 _ rfl
            have f1 := HF8.out.2.2 1 _ rfl
            have fz := HF8.out.1
            have e0 := HQ8.out.2.2 0 _ rfl
            have e1 := HQ8.out.2.2 1 _ rfl
            have ef0 := HQ8.out.2.1 0
            have ef1 := HQ8.out.2.1 1
            have ez := HQ8.out.1
            have n_ : gt ≠ gq := by omega
            have zq9 : w.heap.size ≤ gq := Nat.le_of_eq HGQ.out.symm
            have BS := HS8.out
            have sBS := BS.2.2.2.1
            have hRB : ∀ W2, Below gq z9 W2 → Rd W2 r s n c q12 := fun W2 hb => Rd.below' HR8.out (hb.mono (by omega))
            have hGB : ∀ W2, Beside gq z9 W2 → GtL w.heap.size W2 (.slice (some ⟨g, 0, none⟩) k cv) k := fun W2 hb => (HGL.out.beside hb (by omega)).low (by omega)
            have hst := store_slT
            go_wp2
            refine bodyPost_ret (v := .agg #[.int .i64 nx, .slice (some ⟨g, 0, none⟩) k cv]) (by simp [results, Try.results41, go_sem, f0, f1, e0, e1, n_, n_.symm]) rfl ?_
            exact ⟨nx, (some ⟨g, 0, none⟩), k, cv, q12, rfl, by omega, nwf, hGB _ ((Beside.setCell gq _ 0 _).trans (Beside.setCell gq _ 1 _)), hRB _ (show Below gq z9 _ from (by repeat (first | with_reducible exact Below.refl _ _ | with_reducible refine Below.setCell ?_ (by first | omega | (simp; done) | (simp; omega)) _ | with_reducible refine bDrewN ?_ _ | with_reducible refine Below.drew ?_ | with_reducible refine Below.alloc ?_ (by first | omega | (simp; done) | (simp; omega)) _))), BS.onB (show Below w.heap.size z9 _ from (by repeat (first | with_reducible exact Below.refl _ _ | with_reducible refine Below.setCell ?_ (by first | omega | (simp; done) | (simp; omega)) _ | with_reducible refine bDrewN ?_ _ | with_reducible refine Below.drew ?_ | with_reducible refine Below.alloc ?_ (by first | omega | (simp; done) | (simp; omega)) _)))⟩
          have ne2 : (sw == 2) = false := by simpa using e2
          by_cases e3 : sw = 3
          case pos =>
            subst e3
            clear sw0
            have f0 := HF.out.2.2 1 _ rfl
            have f0f := HF.out.2.1 1
            have fz := HF.out.1
            have hst := store_slT
            go_upto_region 30 with fail
            obtain ⟨z9, hz9⟩ : ∃ z, z = y5.setCell ⟨gt, 1, none⟩ (.slice none 0 0) := ⟨_, rfl⟩
            rw [← hz9]
            have bs_ : Beside gt y5 z9 := by rw [hz9]; exact Beside.setCell gt _ _ _
            have zr9 : r < y5.heap.size := HR.out.1
            have HF8 : Hid (Blk z9 gt [.int .i64 x, .slice none 0 0]) := by show Blk _ _ _; rw [hz9]; exact HF.out.set 1 _
            have HQ8 : Hid (Blk z9 gq [.int .i64 0, .slice none 0 0]) := HQ.out.beside bs_ (by omega)
            have HS8 : Hid (Beside r w z9) := HS.out.onB (bs_.below (by have := HGQ.out; omega) (HS.out.2.2.2.1))
            have HR8 : Hid (Rd z9 r s n c q11) := Rd.below' HR.out (bs_.below (by omega) (by omega))
            clear hz9 bs_ zr9 f0 f0f fz hst
            have HGL : Hid (GtL B z9 (.slice none 0 0) 0) := (gt_nil _ _ _).list (H := 0)
            have f0 := HF8.out.2.2 0 _ rfl
            have f1 := HF8.out.2.2 1 _ rfl
            have fz := HF8.out.1
            have e0 := HQ8.out.2.2 0 _ rfl
            have e1 := HQ8.out.2.2 1 _ rfl
            have ef0 := HQ8.out.2.1 0
            have ef1 := HQ8.out.2.1 1
            have ez := HQ8.out.1
            have n_ : gt ≠ gq := by omega
            have zq9 : w.heap.size ≤ gq := Nat.le_of_eq HGQ.out.symm
            have BS := HS8.out
            have sBS := BS.2.2.2.1
            have hRB : ∀ W2, Below gq z9 W2 → Rd W2 r s n c q11 := fun W2 hb => Rd.below' HR8.out (hb.mono (by omega))
            have hGB : ∀ W2, Beside gq z9 W2 → GtL w.heap.size W2 (.slice none 0 0) 0 := fun W2 hb => (HGL.out.beside hb (by omega)).low (by omega)
            have hst := store_slT
            go_wp2
            refine bodyPost_ret (v := .agg #[.int .i64 x, .slice none 0 0]) (by simp [results, Try.results41, go_sem, f0, f1, e0, e1, n_, n_.symm]) rfl ?_
            exact ⟨x, none, 0, 0, q11, rfl, by omega, wfi (by omega) (by omega), hGB _ ((Beside.setCell gq _ 0 _).trans (Beside.setCell gq _ 1 _)), hRB _ (show Below gq z9 _ from (by repeat (first | with_reducible exact Below.refl _ _ | with_reducible refine Below.setCell ?_ (by first | omega | (simp; done) | (simp; omega)) _ | with_reducible refine bDrewN ?_ _ | with_reducible refine Below.drew ?_ | with_reducible refine Below.alloc ?_ (by first | omega | (simp; done) | (simp; omega)) _))), BS.onB (show Below w.heap.size z9 _ from (by repeat (first | with_reducible exact Below.refl _ _ | with_reducible refine Below.setCell ?_ (by first | omega | (simp; done) | (simp; omega)) _ | with_reducible refine bDrewN ?_ _ | with_reducible refine Below.drew ?_ | with_reducible refine Below.alloc ?_ (by first | omega | (simp; done) | (simp; omega)) _)))⟩
          have ne3 : (sw == 3) = false := by simpa using e3
          by_cases e4 : sw = 4
          case pos =>
            subst e4
            clear sw0
            go_upto_region 25 with fail
            go_wp2_with fail
            refine (below_any 2 HR).mono ?_
            rintro e y7 ⟨n2, q12, rfl, n20, -, n22, R_, b_⟩
            have zr_ : r < y5.heap.size := HR.out.1
            replace HS : Hid (Beside r w y7) := HS.out.trans b_
            replace HQ : Hid (Blk y7 gq [.int .i64 0, .slice none 0 0]) := HQ.out.beside b_ (by omega)
            replace HF : Hid (Blk y7 gt [.int .i64 x, .slice (some ⟨g, 0, none⟩) k cv]) := HF.out.beside b_ (by omega)
            replace HZ : Hid (B ≤ y7.heap.size) := Nat.le_trans HZ.out b_.2.2.2.1
            replace HGF : Hid (GtF B y7 (.slice (some ⟨g, 0, none⟩) k cv) k f A) := HGF.out.beside b_ (by omega)
            replace HR : Hid (Rd y7 r s n c q12) := R_
            clear R_ b_ zr_
            obtain ⟨nm, hnm⟩ : ∃ nm : Int, 20 + n2 = nm := ⟨_, rfl⟩
            have nm1 : nm ≤ 21 := by omega
            have nm0 : 20 ≤ nm := by omega
            go_upto_region 26 with fail
            try rw [hnm]
            clear hnm n20 n22
            go_wp2_with fail
            go_loopw [150] (fun _ wx => ∃ (m g cv : Nat) (f : Nat → Value) (A : Nat → Nat), 1 ≤ m ∧ m ≤ 21 ∧ B ≤ g ∧ Hid (Rd wx r s n c q12) ∧ Hid (Beside r w wx) ∧ Hid (Blk wx gq [.int .i64 0, .slice none 0 0]) ∧ Hid (Blk wx gt [.int .i64 x, .slice (some ⟨g, 0, none⟩) m cv]) ∧ Hid (B ≤ wx.heap.size) ∧ Hid (GtF B wx (.slice (some ⟨g, 0, none⟩) m cv) m f A)) (fun _ wx => 22 - lenAt wx gt)
            case atStart => exact ⟨k, g, cv, f, A, by omega, by omega, zg1, HR, HS, HQ, HF, HZ, HGF⟩
            case round =>
              clear HR HS HQ HF HZ HGF HINJ H6 i0k i0k' ix0 k1 k6 zg1 zg2
              obtain ⟨m, g, cv, f, A, m1, m21, zg1, HR, HS, HQ, HF, HZ, HGF⟩ := hrel
              rename World => wl
              have HLen : Hid (lenAt wl gt = m) := lenAt_is (HF.out.2.2 1 _ rfl)
              have f1 := HF.out.2.2 1 _ rfl
              have fz := HF.out.1
              by_cases hm : (m : Int) < nm
              case neg =>
                have hm2 : decide ((m : Int) < nm) = false := decide_eq_false hm
                go_upto_region 30 with fail
                clear f1 fz hm2
                have HGL : Hid (GtL B wl (.slice (some ⟨g, 0, none⟩) m cv) m) := ⟨f, A, HGF.out⟩
                have f0 := HF.out.2.2 0 _ rfl
                have f1 := HF.out.2.2 1 _ rfl
                have fz := HF.out.1
                have e0 := HQ.out.2.2 0 _ rfl
                have e1 := HQ.out.2.2 1 _ rfl
                have ef0 := HQ.out.2.1 0
                have ef1 := HQ.out.2.1 1
                have ez := HQ.out.1
                have n_ : gt ≠ gq := by omega
                have zq9 : w.heap.size ≤ gq := Nat.le_of_eq HGQ.out.symm
                have BS := HS.out
                have sBS := BS.2.2.2.1
                have hRB : ∀ W2, Below gq wl W2 → Rd W2 r s n c q12 := fun W2 hb => Rd.below' HR.out (hb.mono (by omega))
                have hGB : ∀ W2, Beside gq wl W2 → GtL w.heap.size W2 (.slice (some ⟨g, 0, none⟩) m cv) m := fun W2 hb => (HGL.out.beside hb (by omega)).low (by omega)
                have hst := store_slT
                go_wp2
                refine bodyPost_ret (v := .agg #[.int .i64 x, .slice (some ⟨g, 0, none⟩) m cv]) (by simp [results, Try.results41, go_sem, f0, f1, e0, e1, n_, n_.symm]) rfl ?_
                exact ⟨x, (some ⟨g, 0, none⟩), m, cv, q12, rfl, by omega, wfi (by omega) (by omega), hGB _ ((Beside.setCell gq _ 0 _).trans (Beside.setCell gq _ 1 _)), hRB _ (show Below gq wl _ from (by repeat (first | with_reducible exact Below.refl _ _ | with_reducible refine Below.setCell ?_ (by first | omega | (simp; done) | (simp; omega)) _ | with_reducible refine bDrewN ?_ _ | with_reducible refine Below.drew ?_ | with_reducible refine Below.alloc ?_ (by first | omega | (simp; done) | (simp; omega)) _))), BS.onB (show Below w.heap.size wl _ from (by repeat (first | with_reducible exact Below.refl _ _ | with_reducible refine Below.setCell ?_ (by first | omega | (simp; done) | (simp; omega)) _ | with_reducible refine bDrewN ?_ _ | with_reducible refine Below.drew ?_ | with_reducible refine Below.alloc ?_ (by first | omega | (simp; done) | (simp; omega)) _)))⟩
              obtain ⟨x0', k0, c0, U0, ea, eb, L0, k01, k02⟩ := HGF.out.2 0 (by omega)
              have HEA : Hid (f 0 = .int .i64 x0') := ea
              have HEB : Hid (f 1 = .slice (some ⟨A 0, 0, none⟩) k0 c0) := eb
              clear ea eb L0
              go_upto_region 27 with fail
              clear f1 fz
              refine wp_region_held_drew (S := fun w' => True) (by kernel_rfl) ?_ (fun hHeld => ?_)
              · trivial
              obtain ⟨v0, hv0⟩ : ∃ z, z = wl.drew := ⟨_, rfl⟩
              try rw [← hv0] at hHeld
              rw [← hv0]
              have bv0 : Below wl.heap.size wl v0 := by rw [hv0]; exact Below.drew (Below.refl _ _)
              clear hv0
              replace HR : Hid (Rd v0 r s n c q12) := HR.out.below bv0
              replace HS : Hid (Beside r w v0) := HS.out.trans (Beside.of bv0)
              replace HQ : Hid (Blk v0 gq [.int .i64 0, .slice none 0 0]) := HQ.out.below bv0
              replace HF : Hid (Blk v0 gt [.int .i64 x, .slice (some ⟨g, 0, none⟩) m cv]) := HF.out.below bv0
              replace HZ : Hid (B ≤ v0.heap.size) := Nat.le_trans HZ.out bv0.size
              replace HGF : Hid (GtF B v0 (.slice (some ⟨g, 0, none⟩) m cv) m f A) := HGF.out.below bv0
              clear bv0
              refine wpAnyH_take (i := 0) (v := .pointer (some ⟨gt, 1, none⟩)) rfl (by kernel_rfl) (by kernel_rfl) (by kernel_rfl) (fun _ _ _ h => h) (Or.inl ⟨by kernel_rfl, ?_⟩) hHeld ?_
              · intro w' hSw
                first | (go_simp; done) | (go_simp; with_reducible rfl) | (go_simp; rw [IntKind.wrap_i64]; omega) | (go_simp; omega)
              simp only [Act.put, List.setIfInBounds_toArray, List.set_cons_zero, List.set_cons_succ]
              refine wpAnyH_take (i := 2) (v := .pointer (some ⟨gt, 1, none⟩)) rfl (by kernel_rfl) (by kernel_rfl) (by kernel_rfl) (fun _ _ _ h => h) (Or.inl ⟨by kernel_rfl, ?_⟩) hHeld ?_
              · intro w' hSw
                first | (go_simp; done) | (go_simp; with_reducible rfl) | (go_simp; rw [IntKind.wrap_i64]; omega) | (go_simp; omega)
              simp only [Act.put, List.setIfInBounds_toArray, List.set_cons_zero, List.set_cons_succ]
              refine wpAnyH_ready (rs := [1, 3]) (by kernel_rfl) (by simp) ?_
              refine (AllReadyH.cons rfl (fun KK hK => ?_) (AllReadyH.cons rfl (fun KK hK => ?_) AllReadyH.nil))
              · have hl_ : v0.cell? ⟨gt, 1, none⟩ = some (.slice (some ⟨g, 0, none⟩) m cv) := HF.out.2.2 1 _ rfl
                have hz_ : gt < v0.heap.size := HF.out.1
                go_simp
                clear hl_ hz_
                refine hK.out _ _ (trivial) (fun hHeld => ?_)
                clear hK KK
                refine wpAnyH_ready (rs := [3]) (by kernel_rfl) (by simp) ?_
                refine (AllReadyH.cons rfl (fun KK hK => ?_) AllReadyH.nil)
                have hl_ : v0.cell? ⟨gt, 1, none⟩ = some (.slice (some ⟨g, 0, none⟩) m cv) := HF.out.2.2 1 _ rfl
                have hz_ : gt < v0.heap.size := HF.out.1
                go_simp
                clear hl_ hz_
                refine hK.out _ _ (trivial) (fun hHeld => ?_)
                clear hK KK
                refine wpAnyH_take (i := 4) (v := .pointer (some ⟨g, 0, none⟩)) rfl (by kernel_rfl) (by kernel_rfl) (by kernel_rfl) (fun _ _ _ h => h) (Or.inl ⟨by kernel_rfl, ?_⟩) hHeld ?_
                · intro w' hSw
                  first | (go_simp; done) | (go_simp; omega)
                simp only [Act.put, List.setIfInBounds_toArray, List.set_cons_zero, List.set_cons_succ]
                refine wpAnyH_ready (rs := [5]) (by kernel_rfl) (by simp) ?_
                refine (AllReadyH.cons rfl (fun KK hK => ?_) AllReadyH.nil)
                have hl0 : v0.cell? ⟨g, 0, none⟩ = some (.int .i64 x0') := by have t_ := GtF.cell HGF.out (show 0 < m * 2 by omega); rw [HEA.out] at t_; exact t_
                have hl1 : v0.cell? ⟨g, 1, none⟩ = some (.slice (some ⟨A 0, 0, none⟩) k0 c0) := by have t_ := GtF.cell HGF.out (show 1 < m * 2 by omega); rw [HEB.out] at t_; exact t_
                have hz_ : g < v0.heap.size := (World.ownsRow.lt HGF.out.1 g rfl).2
                go_simp
                clear hl0 hl1 hz_
                refine hK.out _ _ (trivial) (fun hHeld => ?_)
                clear hK KK
                refine wpAnyH_ready (rs := [6]) (by kernel_rfl) (by simp) ?_
                refine (AllReadyH.cons rfl (fun KK hK => ?_) AllReadyH.nil)
                go_simp
                obtain ⟨v0_4, hv_⟩ : ∃ z, z = v0.alloc (.cells #[.int .i64 x0', .slice (some ⟨A 0, 0, none⟩) k0 c0] 87) := ⟨_, rfl⟩
                rw [← hv_]
                obtain ⟨lb, hlb⟩ : ∃ z, z = v0.heap.size := ⟨_, rfl⟩
                have b_ : Below v0.heap.size v0 v0_4 := by rw [hv_]; exact below0 _ _
                have LB0 : v0_4.cell? ⟨lb, 0, none⟩ = some (.int .i64 x0') := by rw [hv_, hlb]; simp [go_sem]
                have LB1 : v0_4.cell? ⟨lb, 1, none⟩ = some (.slice (some ⟨A 0, 0, none⟩) k0 c0) := by rw [hv_, hlb]; simp [go_sem]
                replace HR : Hid (Rd v0_4 r s n c q12) := HR.out.below b_
                replace HS : Hid (Beside r w v0_4) := HS.out.trans (Beside.of b_)
                replace HQ : Hid (Blk v0_4 gq [.int .i64 0, .slice none 0 0]) := HQ.out.below b_
                replace HF : Hid (Blk v0_4 gt [.int .i64 x, .slice (some ⟨g, 0, none⟩) m cv]) := HF.out.below b_
                replace HZ : Hid (B ≤ v0_4.heap.size) := Nat.le_trans HZ.out b_.size
                replace HGF : Hid (GtF B v0_4 (.slice (some ⟨g, 0, none⟩) m cv) m f A) := HGF.out.below b_
                try rw [← hlb]
                clear hv_ hlb b_
                refine hK.out _ _ (trivial) (fun hHeld => ?_)
                clear hK KK
                refine wpAnyH_ready (rs := [7]) (by kernel_rfl) (by simp) ?_
                refine (AllReadyH.cons rfl (fun KK hK => ?_) AllReadyH.nil)
                obtain ⟨i9, hi, hz0, hz1, hz2⟩ := info_parts info_Gate
                refine wp_append_lies _ (.tmp 156) (.tmp 161) 24 (by rfl) B 87 i9 (.agg #[.int .i64 0, .slice none 0 0]) 2 32 Try.underlying24 hi hz0 hz1 hz2 rfl (by decide) (.slice (some ⟨g, 0, none⟩) m cv) m _ (by rfl) HGF.out.1 ⟨lb, 0, none⟩ 1 1 [.int .i64 x0', .slice (some ⟨A 0, 0, none⟩) k0 c0] (by rfl) rfl (news_twoG LB0 LB1) (by intro u hu; simp at hu; rcases hu with rfl | rfl <;> rfl) (by decide) (by unfold maxLen; omega) (by omega) HZ.out _ rfl ?_
                intro g9 cap9 v0_5 hown9 hgrow9 _ hlt9
                obtain ⟨U0, L0⟩ : ∃ U0, Lst B 2 1 v0_4 (.slice (some ⟨A 0, 0, none⟩) k0 c0) k0 U0 := by
                  obtain ⟨_, _, _, U0, _, eb, L0, _⟩ := HGF.out.2 0 (by omega)
                  rw [HEB.out] at eb
                  cases eb
                  exact ⟨U0, L0⟩
                have HGF9 : Hid (GtF B v0_5 (.slice (some ⟨g9, 0, none⟩) (m + 1) cap9) (m + 1) (putF f m (.int .i64 x0') (.slice (some ⟨A 0, 0, none⟩) k0 c0)) (putA A m (A 0))) := GtF.grow HGF.out L0 k01 k02 hown9 hgrow9
                have b_ : Below B v0_4 v0_5 := grown_below hgrow9 HZ.out (own_block HGF.out.1)
                have zg9 : B ≤ g9 := (World.ownsRow.lt HGF9.out.1 g9 rfl).1
                have HQ9 : Hid (Blk v0_5 gq [.int .i64 0, .slice none 0 0]) := HQ.out.belowB b_ (by omega)
                have HF9 : Hid (Blk v0_5 gt [.int .i64 x, .slice (some ⟨g, 0, none⟩) m cv]) := HF.out.belowB b_ (by omega)
                have HZ9 : Hid (B ≤ v0_5.heap.size) := Nat.le_trans HZ.out b_.size
                have HS9 : Hid (Beside r w v0_5) := HS.out.onB (b_.mono (by have := HGQ.out; omega))
                have HR9 : Hid (Rd v0_5 r s n c q12) := Rd.below' HR.out (b_.mono (by omega))
                clear hown9 hgrow9 b_ LB0 LB1 hi hz0 hz1 hz2 hlt9 L0
                go_simp
                refine hK.out _ _ (trivial) (fun hHeld => ?_)
                clear hK KK
                refine wpAnyH_take (i := 8) (v := .pointer (some ⟨gt, 1, none⟩)) rfl (by kernel_rfl) (by kernel_rfl) (by kernel_rfl) (fun _ _ _ h => h) (Or.inl ⟨by kernel_rfl, ?_⟩) hHeld ?_
                · intro w' hSw
                  first | (go_simp; done) | (go_simp; with_reducible rfl) | (go_simp; rw [IntKind.wrap_i64]; omega) | (go_simp; omega)
                simp only [Act.put, List.setIfInBounds_toArray, List.set_cons_zero, List.set_cons_succ]
                refine wpAnyH_ready (rs := [9]) (by kernel_rfl) (by simp) ?_
                refine (AllReadyH.cons rfl (fun KK hK => ?_) AllReadyH.nil)
                have hl_ : v0_5.cell? ⟨gt, 1, none⟩ = some (.slice (some ⟨g, 0, none⟩) m cv) := HF9.out.2.2 1 _ rfl
                have hf_ : v0_5.frozen? ⟨gt, 1, none⟩ = false := HF9.out.2.1 1
                have hz_ : gt < v0_5.heap.size := HF9.out.1
                have hst := store_slT
                go_simp
                obtain ⟨v0_6, hv_⟩ : ∃ z, z = v0_5.setCell ⟨gt, 1, none⟩ (.slice (some ⟨g9, 0, none⟩) (m + 1) cap9) := ⟨_, rfl⟩
                rw [← hv_]
                have bs_ : Beside gt v0_5 v0_6 := by rw [hv_]; exact Beside.setCell gt _ _ _
                have zr9 : r < v0_5.heap.size := HR9.out.1
                have HF8 : Hid (Blk v0_6 gt [.int .i64 x, .slice (some ⟨g9, 0, none⟩) (m + 1) cap9]) := by show Blk _ _ _; rw [hv_]; exact HF9.out.set 1 _
                have HQ8 : Hid (Blk v0_6 gq [.int .i64 0, .slice none 0 0]) := HQ9.out.beside bs_ (by omega)
                have HZ8 : Hid (B ≤ v0_6.heap.size) := Nat.le_trans HZ9.out bs_.2.2.2.1
                have HGF8 : Hid (GtF B v0_6 (.slice (some ⟨g9, 0, none⟩) (m + 1) cap9) (m + 1) (putF f m (.int .i64 x0') (.slice (some ⟨A 0, 0, none⟩) k0 c0)) (putA A m (A 0))) := HGF9.out.beside bs_ zB
                have HS8 : Hid (Beside r w v0_6) := HS9.out.onB (bs_.below (by have := HGQ.out; omega) (HS9.out.2.2.2.1))
                have HR8 : Hid (Rd v0_6 r s n c q12) := Rd.below' HR9.out (bs_.below (by omega) (by omega))
                clear hv_ bs_ zr9 hl_ hf_ hst hz_
                refine hK.out _ _ (trivial) (fun hHeld => ?_)
                clear hK KK
                refine wpAnyH_done (by kernel_rfl) ?_ _
                clear hHeld
                have HLen2 : Hid (lenAt v0_6 gt = m + 1) := lenAt_is (HF8.out.2.2 1 _ rfl)
                go_wp2
                go_roundw
                case rel => exact ⟨m + 1, g9, cap9, _, _, by omega, by omega, zg9, HR8, HS8, HQ8, HF8, HZ8, HGF8⟩
                case measure => show 22 - lenAt v0_6 gt < 22 - lenAt wl gt; rw [HLen.out, HLen2.out]; omega
              · have hl_ : v0.cell? ⟨gt, 1, none⟩ = some (.slice (some ⟨g, 0, none⟩) m cv) := HF.out.2.2 1 _ rfl
                have hz_ : gt < v0.heap.size := HF.out.1
                go_simp
                clear hl_ hz_
                refine hK.out _ _ (trivial) (fun hHeld => ?_)
                clear hK KK
                refine wpAnyH_take (i := 4) (v := .pointer (some ⟨g, 0, none⟩)) rfl (by kernel_rfl) (by kernel_rfl) (by kernel_rfl) (fun _ _ _ h => h) (Or.inl ⟨by kernel_rfl, ?_⟩) hHeld ?_
                · intro w' hSw
                  first | (go_simp; done) | (go_simp; omega)
                simp only [Act.put, List.setIfInBounds_toArray, List.set_cons_zero, List.set_cons_succ]
                refine wpAnyH_ready (rs := [1, 5]) (by kernel_rfl) (by simp) ?_
                refine (AllReadyH.cons rfl (fun KK hK => ?_) (AllReadyH.cons rfl (fun KK hK => ?_) AllReadyH.nil))
                · have hl_ : v0.cell? ⟨gt, 1, none⟩ = some (.slice (some ⟨g, 0, none⟩) m cv) := HF.out.2.2 1 _ rfl
                  have hz_ : gt < v0.heap.size := HF.out.1
                  go_simp
                  clear hl_ hz_
                  refine hK.out _ _ (trivial) (fun hHeld => ?_)
                  clear hK KK
                  refine wpAnyH_ready (rs := [5]) (by kernel_rfl) (by simp) ?_
                  refine (AllReadyH.cons rfl (fun KK hK => ?_) AllReadyH.nil)
                  have hl0 : v0.cell? ⟨g, 0, none⟩ = some (.int .i64 x0') := by have t_ := GtF.cell HGF.out (show 0 < m * 2 by omega); rw [HEA.out] at t_; exact t_
                  have hl1 : v0.cell? ⟨g, 1, none⟩ = some (.slice (some ⟨A 0, 0, none⟩) k0 c0) := by have t_ := GtF.cell HGF.out (show 1 < m * 2 by omega); rw [HEB.out] at t_; exact t_
                  have hz_ : g < v0.heap.size := (World.ownsRow.lt HGF.out.1 g rfl).2
                  go_simp
                  clear hl0 hl1 hz_
                  refine hK.out _ _ (trivial) (fun hHeld => ?_)
                  clear hK KK
                  refine wpAnyH_ready (rs := [6]) (by kernel_rfl) (by simp) ?_
                  refine (AllReadyH.cons rfl (fun KK hK => ?_) AllReadyH.nil)
                  go_simp
                  obtain ⟨v0_10, hv_⟩ : ∃ z, z = v0.alloc (.cells #[.int .i64 x0', .slice (some ⟨A 0, 0, none⟩) k0 c0] 87) := ⟨_, rfl⟩
                  rw [← hv_]
                  obtain ⟨lb, hlb⟩ : ∃ z, z = v0.heap.size := ⟨_, rfl⟩
                  have b_ : Below v0.heap.size v0 v0_10 := by rw [hv_]; exact below0 _ _
                  have LB0 : v0_10.cell? ⟨lb, 0, none⟩ = some (.int .i64 x0') := by rw [hv_, hlb]; simp [go_sem]
                  have LB1 : v0_10.cell? ⟨lb, 1, none⟩ = some (.slice (some ⟨A 0, 0, none⟩) k0 c0) := by rw [hv_, hlb]; simp [go_sem]
                  replace HR : Hid (Rd v0_10 r s n c q12) := HR.out.below b_
                  replace HS : Hid (Beside r w v0_10) := HS.out.trans (Beside.of b_)
                  replace HQ : Hid (Blk v0_10 gq [.int .i64 0, .slice none 0 0]) := HQ.out.below b_
                  replace HF : Hid (Blk v0_10 gt [.int .i64 x, .slice (some ⟨g, 0, none⟩) m cv]) := HF.out.below b_
                  replace HZ : Hid (B ≤ v0_10.heap.size) := Nat.le_trans HZ.out b_.size
                  replace HGF : Hid (GtF B v0_10 (.slice (some ⟨g, 0, none⟩) m cv) m f A) := HGF.out.below b_
                  try rw [← hlb]
                  clear hv_ hlb b_
                  refine hK.out _ _ (trivial) (fun hHeld => ?_)
                  clear hK KK
                  refine wpAnyH_ready (rs := [7]) (by kernel_rfl) (by simp) ?_
                  refine (AllReadyH.cons rfl (fun KK hK => ?_) AllReadyH.nil)
                  obtain ⟨i9, hi, hz0, hz1, hz2⟩ := info_parts info_Gate
                  refine wp_append_lies _ (.tmp 156) (.tmp 161) 24 (by rfl) B 87 i9 (.agg #[.int .i64 0, .slice none 0 0]) 2 32 Try.underlying24 hi hz0 hz1 hz2 rfl (by decide) (.slice (some ⟨g, 0, none⟩) m cv) m _ (by rfl) HGF.out.1 ⟨lb, 0, none⟩ 1 1 [.int .i64 x0', .slice (some ⟨A 0, 0, none⟩) k0 c0] (by rfl) rfl (news_twoG LB0 LB1) (by intro u hu; simp at hu; rcases hu with rfl | rfl <;> rfl) (by decide) (by unfold maxLen; omega) (by omega) HZ.out _ rfl ?_
                  intro g9 cap9 v0_11 hown9 hgrow9 _ hlt9
                  obtain ⟨U0, L0⟩ : ∃ U0, Lst B 2 1 v0_10 (.slice (some ⟨A 0, 0, none⟩) k0 c0) k0 U0 := by
                    obtain ⟨_, _, _, U0, _, eb, L0, _⟩ := HGF.out.2 0 (by omega)
                    rw [HEB.out] at eb
                    cases eb
                    exact ⟨U0, L0⟩
                  have HGF9 : Hid (GtF B v0_11 (.slice (some ⟨g9, 0, none⟩) (m + 1) cap9) (m + 1) (putF f m (.int .i64 x0') (.slice (some ⟨A 0, 0, none⟩) k0 c0)) (putA A m (A 0))) := GtF.grow HGF.out L0 k01 k02 hown9 hgrow9
                  have b_ : Below B v0_10 v0_11 := grown_below hgrow9 HZ.out (own_block HGF.out.1)
                  have zg9 : B ≤ g9 := (World.ownsRow.lt HGF9.out.1 g9 rfl).1
                  have HQ9 : Hid (Blk v0_11 gq [.int .i64 0, .slice none 0 0]) := HQ.out.belowB b_ (by omega)
                  have HF9 : Hid (Blk v0_11 gt [.int .i64 x, .slice (some ⟨g, 0, none⟩) m cv]) := HF.out.belowB b_ (by omega)
                  have HZ9 : Hid (B ≤ v0_11.heap.size) := Nat.le_trans HZ.out b_.size
                  have HS9 : Hid (Beside r w v0_11) := HS.out.onB (b_.mono (by have := HGQ.out; omega))
                  have HR9 : Hid (Rd v0_11 r s n c q12) := Rd.below' HR.out (b_.mono (by omega))
                  clear hown9 hgrow9 b_ LB0 LB1 hi hz0 hz1 hz2 hlt9 L0
                  go_simp
                  refine hK.out _ _ (trivial) (fun hHeld => ?_)
                  clear hK KK
                  refine wpAnyH_take (i := 8) (v := .pointer (some ⟨gt, 1, none⟩)) rfl (by kernel_rfl) (by kernel_rfl) (by kernel_rfl) (fun _ _ _ h => h) (Or.inl ⟨by kernel_rfl, ?_⟩) hHeld ?_
                  · intro w' hSw
                    first | (go_simp; done) | (go_simp; with_reducible rfl) | (go_simp; rw [IntKind.wrap_i64]; omega) | (go_simp; omega)
                  simp only [Act.put, List.setIfInBounds_toArray, List.set_cons_zero, List.set_cons_succ]
                  refine wpAnyH_ready (rs := [9]) (by kernel_rfl) (by simp) ?_
                  refine (AllReadyH.cons rfl (fun KK hK => ?_) AllReadyH.nil)
                  have hl_ : v0_11.cell? ⟨gt, 1, none⟩ = some (.slice (some ⟨g, 0, none⟩) m cv) := HF9.out.2.2 1 _ rfl
                  have hf_ : v0_11.frozen? ⟨gt, 1, none⟩ = false := HF9.out.2.1 1
                  have hz_ : gt < v0_11.heap.size := HF9.out.1
                  have hst := store_slT
                  go_simp
                  obtain ⟨v0_12, hv_⟩ : ∃ z, z = v0_11.setCell ⟨gt, 1, none⟩ (.slice (some ⟨g9, 0, none⟩) (m + 1) cap9) := ⟨_, rfl⟩
                  rw [← hv_]
                  have bs_ : Beside gt v0_11 v0_12 := by rw [hv_]; exact Beside.setCell gt _ _ _
                  have zr9 : r < v0_11.heap.size := HR9.out.1
                  have HF8 : Hid (Blk v0_12 gt [.int .i64 x, .slice (some ⟨g9, 0, none⟩) (m + 1) cap9]) := by show Blk _ _ _; rw [hv_]; exact HF9.out.set 1 _
                  have HQ8 : Hid (Blk v0_12 gq [.int .i64 0, .slice none 0 0]) := HQ9.out.beside bs_ (by omega)
                  have HZ8 : Hid (B ≤ v0_12.heap.size) := Nat.le_trans HZ9.out bs_.2.2.2.1
                  have HGF8 : Hid (GtF B v0_12 (.slice (some ⟨g9, 0, none⟩) (m + 1) cap9) (m + 1) (putF f m (.int .i64 x0') (.slice (some ⟨A 0, 0, none⟩) k0 c0)) (putA A m (A 0))) := HGF9.out.beside bs_ zB
                  have HS8 : Hid (Beside r w v0_12) := HS9.out.onB (bs_.below (by have := HGQ.out; omega) (HS9.out.2.2.2.1))
                  have HR8 : Hid (Rd v0_12 r s n c q12) := Rd.below' HR9.out (bs_.below (by omega) (by omega))
                  clear hv_ bs_ zr9 hl_ hf_ hst hz_
                  refine hK.out _ _ (trivial) (fun hHeld => ?_)
                  clear hK KK
                  refine wpAnyH_done (by kernel_rfl) ?_ _
                  clear hHeld
                  have HLen2 : Hid (lenAt v0_12 gt = m + 1) := lenAt_is (HF8.out.2.2 1 _ rfl)
                  go_wp2
                  go_roundw
                  case rel => exact ⟨m + 1, g9, cap9, _, _, by omega, by omega, zg9, HR8, HS8, HQ8, HF8, HZ8, HGF8⟩
                  case measure => show 22 - lenAt v0_12 gt < 22 - lenAt wl gt; rw [HLen.out, HLen2.out]; omega
                · have hl0 : v0.cell? ⟨g, 0, none⟩ = some (.int .i64 x0') := by have t_ := GtF.cell HGF.out (show 0 < m * 2 by omega); rw [HEA.out] at t_; exact t_
                  have hl1 : v0.cell? ⟨g, 1, none⟩ = some (.slice (some ⟨A 0, 0, none⟩) k0 c0) := by have t_ := GtF.cell HGF.out (show 1 < m * 2 by omega); rw [HEB.out] at t_; exact t_
                  have hz_ : g < v0.heap.size := (World.ownsRow.lt HGF.out.1 g rfl).2
                  go_simp
                  clear hl0 hl1 hz_
                  refine hK.out _ _ (trivial) (fun hHeld => ?_)
                  clear hK KK
                  refine wpAnyH_ready (rs := [1, 6]) (by kernel_rfl) (by simp) ?_
                  refine (AllReadyH.cons rfl (fun KK hK => ?_) (AllReadyH.cons rfl (fun KK hK => ?_) AllReadyH.nil))
                  · have hl_ : v0.cell? ⟨gt, 1, none⟩ = some (.slice (some ⟨g, 0, none⟩) m cv) := HF.out.2.2 1 _ rfl
                    have hz_ : gt < v0.heap.size := HF.out.1
                    go_simp
                    clear hl_ hz_
                    refine hK.out _ _ (trivial) (fun hHeld => ?_)
                    clear hK KK
                    refine wpAnyH_ready (rs := [6]) (by kernel_rfl) (by simp) ?_
                    refine (AllReadyH.cons rfl (fun KK hK => ?_) AllReadyH.nil)
                    go_simp
                    obtain ⟨v0_15, hv_⟩ : ∃ z, z = v0.alloc (.cells #[.int .i64 x0', .slice (some ⟨A 0, 0, none⟩) k0 c0] 87) := ⟨_, rfl⟩
                    rw [← hv_]
                    obtain ⟨lb, hlb⟩ : ∃ z, z = v0.heap.size := ⟨_, rfl⟩
                    have b_ : Below v0.heap.size v0 v0_15 := by rw [hv_]; exact below0 _ _
                    have LB0 : v0_15.cell? ⟨lb, 0, none⟩ = some (.int .i64 x0') := by rw [hv_, hlb]; simp [go_sem]
                    have LB1 : v0_15.cell? ⟨lb, 1, none⟩ = some (.slice (some ⟨A 0, 0, none⟩) k0 c0) := by rw [hv_, hlb]; simp [go_sem]
                    replace HR : Hid (Rd v0_15 r s n c q12) := HR.out.below b_
                    replace HS : Hid (Beside r w v0_15) := HS.out.trans (Beside.of b_)
                    replace HQ : Hid (Blk v0_15 gq [.int .i64 0, .slice none 0 0]) := HQ.out.below b_
                    replace HF : Hid (Blk v0_15 gt [.int .i64 x, .slice (some ⟨g, 0, none⟩) m cv]) := HF.out.below b_
                    replace HZ : Hid (B ≤ v0_15.heap.size) := Nat.le_trans HZ.out b_.size
                    replace HGF : Hid (GtF B v0_15 (.slice (some ⟨g, 0, none⟩) m cv) m f A) := HGF.out.below b_
                    try rw [← hlb]
                    clear hv_ hlb b_
                    refine hK.out _ _ (trivial) (fun hHeld => ?_)
                    clear hK KK
                    refine wpAnyH_ready (rs := [7]) (by kernel_rfl) (by simp) ?_
                    refine (AllReadyH.cons rfl (fun KK hK => ?_) AllReadyH.nil)
                    obtain ⟨i9, hi, hz0, hz1, hz2⟩ := info_parts info_Gate
                    refine wp_append_lies _ (.tmp 156) (.tmp 161) 24 (by rfl) B 87 i9 (.agg #[.int .i64 0, .slice none 0 0]) 2 32 Try.underlying24 hi hz0 hz1 hz2 rfl (by decide) (.slice (some ⟨g, 0, none⟩) m cv) m _ (by rfl) HGF.out.1 ⟨lb, 0, none⟩ 1 1 [.int .i64 x0', .slice (some ⟨A 0, 0, none⟩) k0 c0] (by rfl) rfl (news_twoG LB0 LB1) (by intro u hu; simp at hu; rcases hu with rfl | rfl <;> rfl) (by decide) (by unfold maxLen; omega) (by omega) HZ.out _ rfl ?_
                    intro g9 cap9 v0_16 hown9 hgrow9 _ hlt9
                    obtain ⟨U0, L0⟩ : ∃ U0, Lst B 2 1 v0_15 (.slice (some ⟨A 0, 0, none⟩) k0 c0) k0 U0 := by
                      obtain ⟨_, _, _, U0, _, eb, L0, _⟩ := HGF.out.2 0 (by omega)
                      rw [HEB.out] at eb
                      cases eb
                      exact ⟨U0, L0⟩
                    have HGF9 : Hid (GtF B v0_16 (.slice (some ⟨g9, 0, none⟩) (m + 1) cap9) (m + 1) (putF f m (.int .i64 x0') (.slice (some ⟨A 0, 0, none⟩) k0 c0)) (putA A m (A 0))) := GtF.grow HGF.out L0 k01 k02 hown9 hgrow9
                    have b_ : Below B v0_15 v0_16 := grown_below hgrow9 HZ.out (own_block HGF.out.1)
                    have zg9 : B ≤ g9 := (World.ownsRow.lt HGF9.out.1 g9 rfl).1
                    have HQ9 : Hid (Blk v0_16 gq [.int .i64 0, .slice none 0 0]) := HQ.out.belowB b_ (by omega)
                    have HF9 : Hid (Blk v0_16 gt [.int .i64 x, .slice (some ⟨g, 0, none⟩) m cv]) := HF.out.belowB b_ (by omega)
                    have HZ9 : Hid (B ≤ v0_16.heap.size) := Nat.le_trans HZ.out b_.size
                    have HS9 : Hid (Beside r w v0_16) := HS.out.onB (b_.mono (by have := HGQ.out; omega))
                    have HR9 : Hid (Rd v0_16 r s n c q12) := Rd.below' HR.out (b_.mono (by omega))
                    clear hown9 hgrow9 b_ LB0 LB1 hi hz0 hz1 hz2 hlt9 L0
                    go_simp
                    refine hK.out _ _ (trivial) (fun hHeld => ?_)
                    clear hK KK
                    refine wpAnyH_take (i := 8) (v := .pointer (some ⟨gt, 1, none⟩)) rfl (by kernel_rfl) (by kernel_rfl) (by kernel_rfl) (fun _ _ _ h => h) (Or.inl ⟨by kernel_rfl, ?_⟩) hHeld ?_
                    · intro w' hSw
                      first | (go_simp; done) | (go_simp; with_reducible rfl) | (go_simp; rw [IntKind.wrap_i64]; omega) | (go_simp; omega)
                    simp only [Act.put, List.setIfInBounds_toArray, List.set_cons_zero, List.set_cons_succ]
                    refine wpAnyH_ready (rs := [9]) (by kernel_rfl) (by simp) ?_
                    refine (AllReadyH.cons rfl (fun KK hK => ?_) AllReadyH.nil)
                    have hl_ : v0_16.cell? ⟨gt, 1, none⟩ = some (.slice (some ⟨g, 0, none⟩) m cv) := HF9.out.2.2 1 _ rfl
                    have hf_ : v0_16.frozen? ⟨gt, 1, none⟩ = false := HF9.out.2.1 1
                    have hz_ : gt < v0_16.heap.size := HF9.out.1
                    have hst := store_slT
                    go_simp
                    obtain ⟨v0_17, hv_⟩ : ∃ z, z = v0_16.setCell ⟨gt, 1, none⟩ (.slice (some ⟨g9, 0, none⟩) (m + 1) cap9) := ⟨_, rfl⟩
                    rw [← hv_]
                    have bs_ : Beside gt v0_16 v0_17 := by rw [hv_]; exact Beside.setCell gt _ _ _
                    have zr9 : r < v0_16.heap.size := HR9.out.1
                    have HF8 : Hid (Blk v0_17 gt [.int .i64 x, .slice (some ⟨g9, 0, none⟩) (m + 1) cap9]) := by show Blk _ _ _; rw [hv_]; exact HF9.out.set 1 _
                    have HQ8 : Hid (Blk v0_17 gq [.int .i64 0, .slice none 0 0]) := HQ9.out.beside bs_ (by omega)
                    have HZ8 : Hid (B ≤ v0_17.heap.size) := Nat.le_trans HZ9.out bs_.2.2.2.1
                    have HGF8 : Hid (GtF B v0_17 (.slice (some ⟨g9, 0, none⟩) (m + 1) cap9) (m + 1) (putF f m (.int .i64 x0') (.slice (some ⟨A 0, 0, none⟩) k0 c0)) (putA A m (A 0))) := HGF9.out.beside bs_ zB
                    have HS8 : Hid (Beside r w v0_17) := HS9.out.onB (bs_.below (by have := HGQ.out; omega) (HS9.out.2.2.2.1))
                    have HR8 : Hid (Rd v0_17 r s n c q12) := Rd.below' HR9.out (bs_.below (by omega) (by omega))
                    clear hv_ bs_ zr9 hl_ hf_ hst hz_
                    refine hK.out _ _ (trivial) (fun hHeld => ?_)
                    clear hK KK
                    refine wpAnyH_done (by kernel_rfl) ?_ _
                    clear hHeld
                    have HLen2 : Hid (lenAt v0_17 gt = m + 1) := lenAt_is (HF8.out.2.2 1 _ rfl)
                    go_wp2
                    go_roundw
                    case rel => exact ⟨m + 1, g9, cap9, _, _, by omega, by omega, zg9, HR8, HS8, HQ8, HF8, HZ8, HGF8⟩
                    case measure => show 22 - lenAt v0_17 gt < 22 - lenAt wl gt; rw [HLen.out, HLen2.out]; omega
                  · go_simp
                    obtain ⟨v0_18, hv_⟩ : ∃ z, z = v0.alloc (.cells #[.int .i64 x0', .slice (some ⟨A 0, 0, none⟩) k0 c0] 87) := ⟨_, rfl⟩
                    rw [← hv_]
                    obtain ⟨lb, hlb⟩ : ∃ z, z = v0.heap.size := ⟨_, rfl⟩
                    have b_ : Below v0.heap.size v0 v0_18 := by rw [hv_]; exact below0 _ _
                    have LB0 : v0_18.cell? ⟨lb, 0, none⟩ = some (.int .i64 x0') := by rw [hv_, hlb]; simp [go_sem]
                    have LB1 : v0_18.cell? ⟨lb, 1, none⟩ = some (.slice (some ⟨A 0, 0, none⟩) k0 c0) := by rw [hv_, hlb]; simp [go_sem]
                    replace HR : Hid (Rd v0_18 r s n c q12) := HR.out.below b_
                    replace HS : Hid (Beside r w v0_18) := HS.out.trans (Beside.of b_)
                    replace HQ : Hid (Blk v0_18 gq [.int .i64 0, .slice none 0 0]) := HQ.out.below b_
                    replace HF : Hid (Blk v0_18 gt [.int .i64 x, .slice (some ⟨g, 0, none⟩) m cv]) := HF.out.below b_
                    replace HZ : Hid (B ≤ v0_18.heap.size) := Nat.le_trans HZ.out b_.size
                    replace HGF : Hid (GtF B v0_18 (.slice (some ⟨g, 0, none⟩) m cv) m f A) := HGF.out.below b_
                    try rw [← hlb]
                    clear hv_ hlb b_
                    refine hK.out _ _ (trivial) (fun hHeld => ?_)
                    clear hK KK
                    refine wpAnyH_ready (rs := [1]) (by kernel_rfl) (by simp) ?_
                    refine (AllReadyH.cons rfl (fun KK hK => ?_) AllReadyH.nil)
                    have hl_ : v0_18.cell? ⟨gt, 1, none⟩ = some (.slice (some ⟨g, 0, none⟩) m cv) := HF.out.2.2 1 _ rfl
                    have hz_ : gt < v0_18.heap.size := HF.out.1
                    go_simp
                    clear hl_ hz_
                    refine hK.out _ _ (trivial) (fun hHeld => ?_)
                    clear hK KK
                    refine wpAnyH_ready (rs := [7]) (by kernel_rfl) (by simp) ?_
                    refine (AllReadyH.cons rfl (fun KK hK => ?_) AllReadyH.nil)
                    obtain ⟨i9, hi, hz0, hz1, hz2⟩ := info_parts info_Gate
                    refine wp_append_lies _ (.tmp 156) (.tmp 161) 24 (by rfl) B 87 i9 (.agg #[.int .i64 0, .slice none 0 0]) 2 32 Try.underlying24 hi hz0 hz1 hz2 rfl (by decide) (.slice (some ⟨g, 0, none⟩) m cv) m _ (by rfl) HGF.out.1 ⟨lb, 0, none⟩ 1 1 [.int .i64 x0', .slice (some ⟨A 0, 0, none⟩) k0 c0] (by rfl) rfl (news_twoG LB0 LB1) (by intro u hu; simp at hu; rcases hu with rfl | rfl <;> rfl) (by decide) (by unfold maxLen; omega) (by omega) HZ.out _ rfl ?_
                    intro g9 cap9 v0_20 hown9 hgrow9 _ hlt9
                    obtain ⟨U0, L0⟩ : ∃ U0, Lst B 2 1 v0_18 (.slice (some ⟨A 0, 0, none⟩) k0 c0) k0 U0 := by
                      obtain ⟨_, _, _, U0, _, eb, L0, _⟩ := HGF.out.2 0 (by omega)
                      rw [HEB.out] at eb
                      cases eb
                      exact ⟨U0, L0⟩
                    have HGF9 : Hid (GtF B v0_20 (.slice (some ⟨g9, 0, none⟩) (m + 1) cap9) (m + 1) (putF f m (.int .i64 x0') (.slice (some ⟨A 0, 0, none⟩) k0 c0)) (putA A m (A 0))) := GtF.grow HGF.out L0 k01 k02 hown9 hgrow9
                    have b_ : Below B v0_18 v0_20 := grown_below hgrow9 HZ.out (own_block HGF.out.1)
                    have zg9 : B ≤ g9 := (World.ownsRow.lt HGF9.out.1 g9 rfl).1
                    have HQ9 : Hid (Blk v0_20 gq [.int .i64 0, .slice none 0 0]) := HQ.out.belowB b_ (by omega)
                    have HF9 : Hid (Blk v0_20 gt [.int .i64 x, .slice (some ⟨g, 0, none⟩) m cv]) := HF.out.belowB b_ (by omega)
                    have HZ9 : Hid (B ≤ v0_20.heap.size) := Nat.le_trans HZ.out b_.size
                    have HS9 : Hid (Beside r w v0_20) := HS.out.onB (b_.mono (by have := HGQ.out; omega))
                    have HR9 : Hid (Rd v0_20 r s n c q12) := Rd.below' HR.out (b_.mono (by omega))
                    clear hown9 hgrow9 b_ LB0 LB1 hi hz0 hz1 hz2 hlt9 L0
                    go_simp
                    refine hK.out _ _ (trivial) (fun hHeld => ?_)
                    clear hK KK
                    refine wpAnyH_take (i := 8) (v := .pointer (some ⟨gt, 1, none⟩)) rfl (by kernel_rfl) (by kernel_rfl) (by kernel_rfl) (fun _ _ _ h => h) (Or.inl ⟨by kernel_rfl, ?_⟩) hHeld ?_
                    · intro w' hSw
                      first | (go_simp; done) | (go_simp; with_reducible rfl) | (go_simp; rw [IntKind.wrap_i64]; omega) | (go_simp; omega)
                    simp only [Act.put, List.setIfInBounds_toArray, List.set_cons_zero, List.set_cons_succ]
                    refine wpAnyH_ready (rs := [9]) (by kernel_rfl) (by simp) ?_
                    refine (AllReadyH.cons rfl (fun KK hK => ?_) AllReadyH.nil)
                    have hl_ : v0_20.cell? ⟨gt, 1, none⟩ = some (.slice (some ⟨g, 0, none⟩) m cv) := HF9.out.2.2 1 _ rfl
                    have hf_ : v0_20.frozen? ⟨gt, 1, none⟩ = false := HF9.out.2.1 1
                    have hz_ : gt < v0_20.heap.size := HF9.out.1
                    have hst := store_slT
                    go_simp
                    obtain ⟨v0_21, hv_⟩ : ∃ z, z = v0_20.setCell ⟨gt, 1, none⟩ (.slice (some ⟨g9, 0, none⟩) (m + 1) cap9) := ⟨_, rfl⟩
                    rw [← hv_]
                    have bs_ : Beside gt v0_20 v0_21 := by rw [hv_]; exact Beside.setCell gt _ _ _
                    have zr9 : r < v0_20.heap.size := HR9.out.1
                    have HF8 : Hid (Blk v0_21 gt [.int .i64 x, .slice (some ⟨g9, 0, none⟩) (m + 1) cap9]) := by show Blk _ _ _; rw [hv_]; exact HF9.out.set 1 _
                    have HQ8 : Hid (Blk v0_21 gq [.int .i64 0, .slice none 0 0]) := HQ9.out.beside bs_ (by omega)
                    have HZ8 : Hid (B ≤ v0_21.heap.size) := Nat.le_trans HZ9.out bs_.2.2.2.1
                    have HGF8 : Hid (GtF B v0_21 (.slice (some ⟨g9, 0, none⟩) (m + 1) cap9) (m + 1) (putF f m (.int .i64 x0') (.slice (some ⟨A 0, 0, none⟩) k0 c0)) (putA A m (A 0))) := HGF9.out.beside bs_ zB
                    have HS8 : Hid (Beside r w v0_21) := HS9.out.onB (bs_.below (by have := HGQ.out; omega) (HS9.out.2.2.2.1))
                    have HR8 : Hid (Rd v0_21 r s n c q12) := Rd.below' HR9.out (bs_.below (by omega) (by omega))
                    clear hv_ bs_ zr9 hl_ hf_ hst hz_
                    refine hK.out _ _ (trivial) (fun hHeld => ?_)
                    clear hK KK
                    refine wpAnyH_done (by kernel_rfl) ?_ _
                    clear hHeld
                    have HLen2 : Hid (lenAt v0_21 gt = m + 1) := lenAt_is (HF8.out.2.2 1 _ rfl)
                    go_wp2
                    go_roundw
                    case rel => exact ⟨m + 1, g9, cap9, _, _, by omega, by omega, zg9, HR8, HS8, HQ8, HF8, HZ8, HGF8⟩
                    case measure => show 22 - lenAt v0_21 gt < 22 - lenAt wl gt; rw [HLen.out, HLen2.out]; omega
          have ne4 : (sw == 4) = false := by simpa using e4
          by_cases e5 : sw = 5
          case pos =>
            subst e5
            clear sw0
            have f0 := HF.out.2.2 0 _ rfl
            have f1 := HF.out.2.2 1 _ rfl
            have f0f := HF.out.2.1 0
            have f1f := HF.out.2.1 1
            have fz := HF.out.1
            have hst := store_slT
            go_upto_region 30 with fail
            obtain ⟨z7, hz7⟩ : ∃ z, z = (y5.setCell ⟨gt, 0, none⟩ (.int .i64 10)).setCell ⟨gt, 1, none⟩ (.slice (some ⟨y5.heap.size + 1, 0, none⟩) 1 1) := ⟨_, rfl⟩
            rw [← hz7]
            have bs_ : Beside gt y5 z7 := by rw [hz7]; exact (Beside.setCell gt _ _ _).trans (Beside.setCell gt _ _ _)
            have hzz : z7.heap.size = y5.heap.size := by rw [hz7]; simp
            rw [← hzz]
            have zr9 : r < y5.heap.size := HR.out.1
            have HF7 : Hid (Blk z7 gt [.int .i64 10, .slice (some ⟨z7.heap.size + 1, 0, none⟩) 1 1]) := by show Blk _ _ _; rw [hzz, hz7]; exact (HF.out.set 0 _).set 1 _
            have HQ7 : Hid (Blk z7 gq [.int .i64 0, .slice none 0 0]) := HQ.out.beside bs_ (by omega)
            have HS7 : Hid (Beside r w z7) := HS.out.onB (bs_.below (by have := HGQ.out; omega) (HS.out.2.2.2.1))
            have HR7 : Hid (Rd z7 r s n c q11) := Rd.below' HR.out (bs_.below (by omega) (by omega))
            have zb7 : B ≤ z7.heap.size := by rw [hzz]; exact HZ.out
            have HGL7 := gt_lit z7 B zb7
            obtain ⟨z9, hz9⟩ : ∃ z, z = (z7.alloc (.cells #[.int .i64 0, .int .i64 1, .int .i64 2, .int .i64 3, .int .i64 4, .int .i64 5, .int .i64 6, .int .i64 7, .int .i64 8, .int .i64 9] 2)).alloc (.cells #[.int .i64 5, .slice (some ⟨z7.heap.size, 0, none⟩) 10 10] 87) := ⟨_, rfl⟩
            rw [← hz9] at HGL7 ⊢
            have b9 : Below z7.heap.size z7 z9 := by rw [hz9]; exact (by repeat (first | with_reducible exact Below.refl _ _ | with_reducible refine Below.setCell ?_ (by first | omega | (simp; done) | (simp; omega)) _ | with_reducible refine bDrewN ?_ _ | with_reducible refine Below.drew ?_ | with_reducible refine Below.alloc ?_ (by first | omega | (simp; done) | (simp; omega)) _))
            have HF8 : Hid (Blk z9 gt [.int .i64 10, .slice (some ⟨z7.heap.size + 1, 0, none⟩) 1 1]) := HF7.out.below b9
            have HQ8 : Hid (Blk z9 gq [.int .i64 0, .slice none 0 0]) := HQ7.out.below b9
            have HS8 : Hid (Beside r w z9) := HS7.out.trans (Beside.of b9)
            have HR8 : Hid (Rd z9 r s n c q11) := HR7.out.below b9
            have HGL8 : Hid (GtL B z9 (.slice (some ⟨z7.heap.size + 1, 0, none⟩) 1 1) 1) := HGL7
            obtain ⟨G, hG⟩ : ∃ G, z7.heap.size + 1 = G := ⟨_, rfl⟩
            rw [hG] at HF8 HGL8
            try rw [hG]
            clear hz7 hz9 hzz bs_ zr9 f0 f1 f0f f1f fz hst HF7 HQ7 HS7 HR7 zb7 HGL7 b9 hG
            have HGL : Hid (GtL B z9 (.slice (some ⟨G, 0, none⟩) 1 1) 1) := HGL8.out
            have f0 := HF8.out.2.2 0 _ rfl
            have f1 := HF8.out.2.2 1 _ rfl
            have fz := HF8.out.1
            have e0 := HQ8.out.2.2 0 _ rfl
            have e1 := HQ8.out.2.2 1 _ rfl
            have ef0 := HQ8.out.2.1 0
            have ef1 := HQ8.out.2.1 1
            have ez := HQ8.out.1
            have n_ : gt ≠ gq := by omega
            have zq9 : w.heap.size ≤ gq := Nat.le_of_eq HGQ.out.symm
            have BS := HS8.out
            have sBS := BS.2.2.2.1
            have hRB : ∀ W2, Below gq z9 W2 → Rd W2 r s n c q11 := fun W2 hb => Rd.below' HR8.out (hb.mono (by omega))
            have hGB : ∀ W2, Beside gq z9 W2 → GtL w.heap.size W2 (.slice (some ⟨G, 0, none⟩) 1 1) 1 := fun W2 hb => (HGL.out.beside hb (by omega)).low (by omega)
            have hst := store_slT
            go_wp2
            refine bodyPost_ret (v := .agg #[.int .i64 10, .slice (some ⟨G, 0, none⟩) 1 1]) (by simp [results, Try.results41, go_sem, f0, f1, e0, e1, n_, n_.symm]) rfl ?_
            exact ⟨10, (some ⟨G, 0, none⟩), 1, 1, q11, rfl, by omega, wfi (by omega) (by omega), hGB _ ((Beside.setCell gq _ 0 _).trans (Beside.setCell gq _ 1 _)), hRB _ (show Below gq z9 _ from (by repeat (first | with_reducible exact Below.refl _ _ | with_reducible refine Below.setCell ?_ (by first | omega | (simp; done) | (simp; omega)) _ | with_reducible refine bDrewN ?_ _ | with_reducible refine Below.drew ?_ | with_reducible refine Below.alloc ?_ (by first | omega | (simp; done) | (simp; omega)) _))), BS.onB (show Below w.heap.size z9 _ from (by repeat (first | with_reducible exact Below.refl _ _ | with_reducible refine Below.setCell ?_ (by first | omega | (simp; done) | (simp; omega)) _ | with_reducible refine bDrewN ?_ _ | with_reducible refine Below.drew ?_ | with_reducible refine Below.alloc ?_ (by first | omega | (simp; done) | (simp; omega)) _)))⟩
          have ne5 : (sw == 5) = false := by simpa using e5
          have HGL : Hid (GtL B y5 (.slice (some ⟨g, 0, none⟩) k cv) k) := ⟨f, A, HGF.out⟩
          have f0 := HF.out.2.2 0 _ rfl
          have f1 := HF.out.2.2 1 _ rfl
          have fz := HF.out.1
          have e0 := HQ.out.2.2 0 _ rfl
          have e1 := HQ.out.2.2 1 _ rfl
          have ef0 := HQ.out.2.1 0
          have ef1 := HQ.out.2.1 1
          have ez := HQ.out.1
          have n_ : gt ≠ gq := by omega
          have zq9 : w.heap.size ≤ gq := Nat.le_of_eq HGQ.out.symm
          have BS := HS.out
          have sBS := BS.2.2.2.1
          have hRB : ∀ W2, Below gq y5 W2 → Rd W2 r s n c q11 := fun W2 hb => Rd.below' HR.out (hb.mono (by omega))
          have hGB : ∀ W2, Beside gq y5 W2 → GtL w.heap.size W2 (.slice (some ⟨g, 0, none⟩) k cv) k := fun W2 hb => (HGL.out.beside hb (by omega)).low (by omega)
          have hst := store_slT
          go_wp2
          refine bodyPost_ret (v := .agg #[.int .i64 x, .slice (some ⟨g, 0, none⟩) k cv]) (by simp [results, Try.results41, go_sem, f0, f1, e0, e1, n_, n_.symm]) rfl ?_
          exact ⟨x, (some ⟨g, 0, none⟩), k, cv, q11, rfl, by omega, wfi (by omega) (by omega), hGB _ ((Beside.setCell gq _ 0 _).trans (Beside.setCell gq _ 1 _)), hRB _ (show Below gq y5 _ from (by repeat (first | with_reducible exact Below.refl _ _ | with_reducible refine Below.setCell ?_ (by first | omega | (simp; done) | (simp; omega)) _ | with_reducible refine bDrewN ?_ _ | with_reducible refine Below.drew ?_ | with_reducible refine Below.alloc ?_ (by first | omega | (simp; done) | (simp; omega)) _))), BS.onB (show Below w.heap.size y5 _ from (by repeat (first | with_reducible exact Below.refl _ _ | with_reducible refine Below.setCell ?_ (by first | omega | (simp; done) | (simp; omega)) _ | with_reducible refine bDrewN ?_ _ | with_reducible refine Below.drew ?_ | with_reducible refine Below.alloc ?_ (by first | omega | (simp; done) | (simp; omega)) _)))⟩
end Go.Proofs.Ytpaiajeigdifcaa
