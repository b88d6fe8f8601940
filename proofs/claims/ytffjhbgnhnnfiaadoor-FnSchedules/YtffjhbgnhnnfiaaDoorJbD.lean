/-
What is proved: jobs that are drawn: any numbers, at most 41 jobs.
-/
import Derived.Test.YtffjhbgnhnnfiaaDoorJt
import Derived.Test.YtffjhbgnhnnfiaaDoorSiz
import Derived.Test.YtffjhbgnhnnfiaaDoorRdO
import Derived.Deep.DeepCutAuto
namespace Go.Proofs.YtffjhbgnhnnfiaaDoor
set_option maxRecDepth 40000
open Go.ChangeShapes Go.WideShapes Go.ChangeAt Go.RowKit
set_option linter.unusedVariables false
set_option linter.unusedSimpArgs false

def JbsPost (r : Nat) (s : Option Addr) (n c : Nat) (w : World) (e : Ending) (w' : World) : Prop := ∃ (t : Option Addr) (m cap p' : Nat), e = .returned (.slice t m cap) ∧ m ≤ 41 ∧ JtL w.heap.size w' (.slice t m cap) m ∧ Rd w' r s n c p' ∧ Beside r w w'
def lenJ : Value → Nat
  | .slice _ n _ => n
  | _ => 0
def KpQ (B q : Nat) (y wz : World) : Prop := ∀ g, B ≤ g → g < q → wz.heap[g]? = y.heap[g]?
theorem wfJ {n : Int} (h1 : -9223372036854775808 ≤ n) (h2 : n ≤ 9223372036854775807) : (Lit.int .i64 n).wf = true := by
  simp only [Lit.wf, Bool.and_eq_true, decide_eq_true_eq]
  exact ⟨h1, h2⟩
set_option maxRecDepth 20000 in
set_option maxHeartbeats 16000000 in
theorem jobs_any {r : Nat} {s : Option Addr} {n c p : Nat} {w : World} (h : Hid (Rd w r s n c p)) : Calls Tryd.prog 24 #[.pointer (some ⟨r, 0, none⟩)] w fun e w' => JbsPost r s n c w e w' := by
  have zr0 : r < w.heap.size := h.out.1
  have HR : Hid (Rd w r s n c p) := h
  clear h
  go_enter Tryd.func24, Tryd.ntmps24
  go_upto_region 2 with fail
  obtain ⟨y0, hw_⟩ : ∃ z, z = w.alloc (.cells #[] 33) := ⟨_, rfl⟩
  rw [← hw_]
  have b_ : Below w.heap.size w y0 := by rw [hw_]; exact below0 _ _
  obtain ⟨B, hB⟩ : ∃ z, z = w.heap.size := ⟨_, rfl⟩
  have HL : Hid (JtL B y0 (.slice (some ⟨B, 0, none⟩) 0 0) 0) := by show JtL _ _ _ _; rw [hw_, hB]; exact jt_lit w _ (Nat.le_refl _)
  replace HR : Hid (Rd y0 r s n c p) := HR.out.below b_
  have HS : Hid (Beside r w y0) := Beside.of b_
  have HZ : Hid (B ≤ y0.heap.size) := by show _ ≤ _; rw [hB]; exact b_.size
  have zB : r < B := by omega
  have zw : w.heap.size ≤ B := by omega
  have zw2 : B ≤ w.heap.size := by omega
  try rw [← hB]
  clear hw_ b_ hB
  go_wp2_with fail
  refine (size_any 5 14 (by omega) (by omega) (by omega) (by omega) HR).mono ?_
  rintro e y1 ⟨N, q1, rfl, N0, N1, R_, b_⟩
  replace HS : Hid (Beside r w y1) := HS.out.trans b_
  replace HZ : Hid (B ≤ y1.heap.size) := Nat.le_trans HZ.out b_.2.2.2.1
  replace HL : Hid (JtL B y1 (.slice (some ⟨B, 0, none⟩) 0 0) 0) := HL.out.beside b_ zB
  clear HR
  have HR : Hid (Rd y1 r s n c q1) := R_
  clear R_ b_
  go_wp2_with fail
  go_loopw [3, 4] (fun v i wx => ∃ (k p5 : Nat), (k : Int) ≤ N ∧ i = .int .i64 (N - k) ∧ Hid (Rd wx r s n c p5) ∧ Hid (Beside r w wx) ∧ Hid (B ≤ wx.heap.size) ∧ Hid (JtL B wx v k)) (fun _ i _ => (intOf i).toNat)
  case atStart => exact ⟨0, q1, by omega, by simp, HR, HS, HZ, HL⟩
  case round =>
    clear HR HS HZ HL
    obtain ⟨k, p5, hk, rfl, HR, HS, HZ, HL⟩ := hrel
    rename World => wa
    obtain ⟨tv, cv, ev⟩ := HL.out.val
    subst ev
    by_cases hlt : (k : Int) < N
    case pos =>
      have q0 : 0 < N - (k : Int) := by omega
      go_upto_region 5 with fail
      go_wp2_with fail
      refine (upto_any 9 (wfJ (by omega) (by omega)) HR).mono ?_
      rintro e y2 ⟨a0, p6, rfl, a0a, a0b, R_, b_⟩
      replace HS : Hid (Beside r w y2) := HS.out.trans b_
      replace HZ : Hid (B ≤ y2.heap.size) := Nat.le_trans HZ.out b_.2.2.2.1
      replace HL : Hid (JtL B y2 (.slice tv k cv) k) := HL.out.beside b_ zB
      clear HR
      have HR : Hid (Rd y2 r s n c p6) := R_
      clear R_ b_
      go_upto_region 6 with fail
      obtain ⟨x, hx⟩ : ∃ x, 1 + a0 = x := ⟨_, rfl⟩
      try rw [hx]
      obtain ⟨y3, hw_⟩ : ∃ z, z = y2.alloc (.cells #[.int .i64 x, .slice none 0 0] 33) := ⟨_, rfl⟩
      rw [← hw_]
      have b_ : Below y2.heap.size y2 y3 := by rw [hw_]; exact below0 _ _
      obtain ⟨q, hq⟩ : ∃ z, z = y2.heap.size := ⟨_, rfl⟩
      have HJ : Hid (Blk y3 q [.int .i64 x, .slice none 0 0]) := by show Blk _ _ _; rw [hw_, hq]; exact Blk.new y2 #[.int .i64 x, .slice none 0 0] 33
      obtain ⟨B2, hB2⟩ : ∃ z, z = q + 1 := ⟨_, rfl⟩
      have hz3 : y3.heap.size = q + 1 := by rw [hw_, hq]; simp
      have HQ : Hid (KpQ B q y2 y3) := fun g _ g2 => b_.block g (by omega)
      have HQ2 : Hid (q = y2.heap.size) := hq
      replace HR : Hid (Rd y3 r s n c p6) := HR.out.below b_
      replace HS : Hid (Beside r w y3) := HS.out.onB (b_.mono (HS.out.2.2.2.1))
      have HZ3 : Hid (B2 ≤ y3.heap.size) := by show _ ≤ _; omega
      have zq : B ≤ q := by have := HZ.out; omega
      have zq2 : q < B2 := by omega
      have zwB : w.heap.size ≤ B2 := by omega
      have HA : Hid (Lst B2 2 1 y3 (.slice none 0 0) 0 (fun _ => 0)) := Lst.nilJ _ _ _ _ _
      try rw [← hq]
      clear hw_ b_ hq hx hz3 a0a a0b hB2
      go_wp2_with fail
      go_loopw [6] (fun i wz => ∃ (kk p7 la ca : Nat) (ta : Option Addr) (Ua : Nat → Int), kk ≤ k ∧ la ≤ kk ∧ i = .int .i64 kk ∧ Hid (Rd wz r s n c p7) ∧ Hid (Beside r w wz) ∧ Hid (B2 ≤ wz.heap.size) ∧ Hid (KpQ B q y2 wz) ∧ Hid (Blk wz q [.int .i64 x, .slice ta la ca]) ∧ Hid (Lst B2 2 1 wz (.slice ta la ca) la Ua)) (fun i _ => k - (intOf i).toNat)
      case atStart => exact ⟨0, p6, 0, 0, none, fun _ => 0, by omega, by omega, rfl, HR, HS, HZ3, HQ, HJ, HA⟩
      case round =>
        clear HR HS HZ3 HQ HJ HA
        obtain ⟨kk, p7, la, ca, ta, Ua, hkk, hla, rfl, HR, HS, HZ3, HQ, HJ, HA⟩ := hrel
        rename World => wz
        by_cases h2 : kk < k
        case pos =>
          have k1 : (kk : Int) < (k : Int) := by omega
          go_upto_region 9 with fail
          go_wp2_with fail
          refine (once_any 4 (by omega) (by omega) HR).mono ?_
          rintro e y4 ⟨b, p8, rfl, R_, b_⟩
          replace HS : Hid (Beside r w y4) := HS.out.trans b_
          have HQn : Hid (KpQ B q y2 y4) := fun g g1 g2 => (b_.2.2.2.2 g (by have := HZ3.out; omega) (by omega)).trans (HQ.out g g1 g2)
          clear HQ
          have HQ := HQn
          clear HQn
          replace HZ3 : Hid (B2 ≤ y4.heap.size) := Nat.le_trans HZ3.out b_.2.2.2.1
          replace HJ : Hid (Blk y4 q [.int .i64 x, .slice ta la ca]) := HJ.out.beside b_ (by omega)
          replace HA : Hid (Lst B2 2 1 y4 (.slice ta la ca) la Ua) := HA.out.beside b_ (by omega)
          clear HR
          have HR : Hid (Rd y4 r s n c p8) := R_
          clear R_ b_
          cases b
          · go_wp2
            go_roundw
            case rel => exact ⟨kk + 1, p8, la, ca, ta, Ua, by omega, by omega, by go_num, HR, HS, HZ3, HQ, HJ, HA⟩
            case measure => first | (simp [intOf]; done) | (simp [intOf]; omega)
          · have zz := HZ3.out
            have e1 := HJ.out.2.2 1 _ rfl
            have ez := HJ.out.1
            have hst := store_slT
            go_wp2_with (at_builtin; refine list_i64L B2 (.slice ta la ca) la Ua (.tmp 28) (.tmp 30) (by rfl) (by rfl) (by rfl) (by rfl) HA.out (by omega) (by omega) ?_; intro g9 cap9 w9 l9 b9; have HJ9 : Hid (Blk w9 q [.int .i64 x, .slice ta la ca]) := HJ.out.belowB b9 zq2; have Hl9 : Hid (Lst B2 2 1 w9 (.slice (some ⟨g9, 0, none⟩) (la + 1) cap9) (la + 1) (putL Ua 1 la [(kk : Int)])) := l9; have Hb9 : Hid (Below B2 y4 w9) := b9; have e9 := HJ9.out.2.2 1 _ rfl; have f9 := HJ9.out.2.1 1; have z9 := HJ9.out.1; clear l9 b9)
            go_roundw
            case rel =>
              have bs : Beside q w9 (w9.setCell ⟨q, 1, none⟩ (.slice (some ⟨g9, 0, none⟩) (la + 1) cap9)) := Beside.setCell q _ 1 _
              have HR9 : Hid (Rd w9 r s n c p8) := Rd.below' HR.out (Hb9.out.mono (by omega))
              refine ⟨kk + 1, p8, la + 1, cap9, some ⟨g9, 0, none⟩, _, by omega, by omega, by go_num, ?_, ?_, ?_, ?_, ?_, Hl9.out.beside bs zq2⟩
              · exact Rd.below' HR9.out (bs.below (by omega) (by have := HR9.out.1; omega))
              · exact (HS.out.onB (Hb9.out.mono zwB)).onB (bs.below (by omega) (by have := HS.out.2.2.2.1; have := Hb9.out.size; omega))
              · show _ ≤ _
                have := Hb9.out.size
                have := bs.2.2.2.1
                omega
              · exact fun g g1 g2 => (bs.2.2.2.2 g (by have := Hb9.out.size; omega) (by omega)).trans ((Hb9.out.block g (by omega)).trans (HQ.out g g1 g2))
              · exact HJ9.out.set 1 _
            case measure => first | (simp [intOf]; done) | (simp [intOf]; omega)
        case neg =>
          obtain rfl : kk = k := by omega
          have HLz : Hid (JtL B wz (.slice tv kk cv) kk) := HL.out.same fun g g1 g2 => HQ.out g g1 (by have := HQ2.out; omega)
          have HAz : Hid (Lst B 2 1 wz (.slice ta la ca) la Ua) := HA.out.lowJ (by omega)
          have e0 := HJ.out.2.2 0 _ rfl
          have e1 := HJ.out.2.2 1 _ rfl
          have ez := HJ.out.1
          have zz := HZ3.out
          go_wp2_with (at_builtin; refine list_Job B (.slice tv kk cv) kk Ua (.tmp 33) (.tmp 35) (by rfl) (by rfl) (by rfl) (by rfl) HLz.out HAz.out (by omega) (by omega) (by omega) ?_; intro g9 cap9 w9 l9 b9)
          have HR9 : Hid (Rd w9 r s n c p7) := Rd.below' HR.out (b9.mono (by omega))
          have HS9 : Hid (Beside r w w9) := HS.out.onB (b9.mono zw)
          have HZ9 : Hid (B ≤ w9.heap.size) := Nat.le_trans (by omega) b9.size
          have HL9 : Hid (JtL B w9 (.slice (some ⟨g9, 0, none⟩) (kk + 1) cap9) (kk + 1)) := l9
          clear l9 b9
          go_roundw
          case rel => exact ⟨kk + 1, p7, by omega, by congr 1; omega, HR9, HS9, HZ9, HL9⟩
          case measure => simp [intOf]; omega
    case neg =>
      obtain rfl : N = (k : Int) := by omega
      have k15 : k ≤ 15 := by omega
      have k1 : 1 ≤ k := by omega
      obtain ⟨g, cap, f, eg, zg, zg2, HF, hkc, c0, c1, fz⟩ := HL.out.blk k1
      cases eg
      have HFf : Hid (JtF B wa (.slice (some ⟨g, 0, none⟩) k cv) k f) := HF
      clear HF c0 c1 fz zg2
      go_upto_region 12 with fail
      go_wp2_with fail
      refine (below_any 40 HR).mono ?_
      rintro e y5 ⟨sw, p9, rfl, sw0, -, sw1, R_, b_⟩
      replace HS : Hid (Beside r w y5) := HS.out.trans b_
      replace HZ : Hid (B ≤ y5.heap.size) := Nat.le_trans HZ.out b_.2.2.2.1
      replace HL : Hid (JtL B y5 (.slice (some ⟨g, 0, none⟩) k cv) k) := HL.out.beside b_ zB
      clear HR
      have HR : Hid (Rd y5 r s n c p9) := R_
      clear R_ b_ HFf
      have ki : (0 : Int) < (k : Int) := by omega
      rcases (show sw = 0 ∨ sw = 1 ∨ sw = 2 ∨ sw = 3 ∨ 4 ≤ sw from by omega) with rfl | rfl | rfl | rfl | h4
      case inl =>
        go_upto_region 14 with fail
        go_wp2_with fail
        refine (off_any 1 1000 (by omega) (by omega) (by omega) HR).mono ?_
        rintro e y6 ⟨x, p10, rfl, xwf, R_, b_⟩
        replace HS : Hid (Beside r w y6) := HS.out.trans b_
        replace HZ : Hid (B ≤ y6.heap.size) := Nat.le_trans HZ.out b_.2.2.2.1
        replace HL : Hid (JtL B y6 (.slice (some ⟨g, 0, none⟩) k cv) k) := HL.out.beside b_ zB
        clear HR
        have HR : Hid (Rd y6 r s n c p10) := R_
        clear R_ b_
        obtain ⟨g', cap', f', eg, zg', zg2, HF, hkc', c0, c1, fz⟩ := HL.out.blk k1
        cases eg
        have HP : Hid (JtL B (y6.setCell ⟨g, 0, none⟩ (.int .i64 x)) (.slice (some ⟨g, 0, none⟩) k cv) k) := HF.put0 x
        have bs : Beside g y6 (y6.setCell ⟨g, 0, none⟩ (.int .i64 x)) := Beside.setCell g _ 0 _
        have HSn : Hid (Beside r w (y6.setCell ⟨g, 0, none⟩ (.int .i64 x))) := HS.out.onB (bs.below (by omega) HS.out.2.2.2.1)
        have HRn : Hid (Rd (y6.setCell ⟨g, 0, none⟩ (.int .i64 x)) r s n c p10) := Rd.below' HR.out (bs.below (by omega) (by have := HR.out.1; omega))
        have f0 := fz 0
        clear HF bs fz c1
        go_wp2
        go_ret
        exact ⟨_, k, cv, p10, rfl, by omega, HP.out.low zw, HRn.out, HSn.out⟩
      case inr.inl =>
        obtain ⟨y6, hw_⟩ : ∃ z, z = y5.alloc (.cells #[.int .i64 0] 2) := ⟨_, rfl⟩
        have b_ : Below y5.heap.size y5 y6 := by rw [hw_]; exact below0 _ _
        have HA : Lst B 2 1 y6 (.slice (some ⟨y5.heap.size, 0, none⟩) 1 1) 1 (fun _ => 0) := by
          show y6.ownsRow _ _ _ _ _ _
          rw [hw_]
          have := World.ownsRow_lit (base := B) (size := 1) (e := 2) y5 #[.int .i64 0] 1 HZ.out (by simp [maxLen]) (by simp)
          simpa [vals, List.range_succ] using this
        have HL6 : JtL B y6 (.slice (some ⟨g, 0, none⟩) k cv) k := HL.out.below b_
        obtain ⟨g', cap', f', eg, zg', zg2, HF, hkc', c0, c1, fz⟩ := HL6.blk k1
        cases eg
        have HP : Hid (JtL B (y6.setCell ⟨g, 1, none⟩ (.slice (some ⟨y5.heap.size, 0, none⟩) 1 1)) (.slice (some ⟨g, 0, none⟩) k cv) k) := HF.put1 HA (by omega)
        have bs : Beside g y6 (y6.setCell ⟨g, 1, none⟩ (.slice (some ⟨y5.heap.size, 0, none⟩) 1 1)) := Beside.setCell g _ 1 _
        have HS6 : Hid (Beside r w y6) := HS.out.onB (b_.mono HS.out.2.2.2.1)
        have HSn : Hid (Beside r w (y6.setCell ⟨g, 1, none⟩ (.slice (some ⟨y5.heap.size, 0, none⟩) 1 1))) := HS6.out.onB (bs.below (by omega) HS6.out.2.2.2.1)
        have HRn : Hid (Rd (y6.setCell ⟨g, 1, none⟩ (.slice (some ⟨y5.heap.size, 0, none⟩) 1 1)) r s n c p9) := Rd.below' (HR.out.below b_) (bs.below (by omega) (by have := (HR.out.below b_).1; omega))
        have zg5 : g < y5.heap.size := by
          obtain ⟨g9, cap9, f9, eg9, -, z9, -⟩ := HL.out.blk k1
          cases eg9
          exact z9
        rw [hw_, World.setCell_alloc_past _ _ _ _ zg5] at HP HSn HRn
        have c15 : y5.cell? ⟨g, 1, none⟩ = some (f' 1) := (b_.cell (p := ⟨g, 1, none⟩) zg5).symm.trans c1
        have f15 : y5.frozen? ⟨g, 1, none⟩ = false := (b_.frozen (p := ⟨g, 1, none⟩) zg5).symm.trans (fz 1)
        have hst := store_slT
        clear hw_ b_ HA HL6 HF bs HS6 c0 c1 fz zg2
        go_wp2
        go_ret
        exact ⟨_, k, cv, p9, rfl, by omega, HP.out.low zw, HRn.out, HSn.out⟩
      case inr.inr.inl =>
        go_upto_region 18 with fail
        go_wp2_with fail
        refine (below_any 2 HR).mono ?_
        rintro e y6 ⟨b, p10, rfl, bb0, -, bb1, R_, b_⟩
        replace HS : Hid (Beside r w y6) := HS.out.trans b_
        replace HZ : Hid (B ≤ y6.heap.size) := Nat.le_trans HZ.out b_.2.2.2.1
        replace HL : Hid (JtL B y6 (.slice (some ⟨g, 0, none⟩) k cv) k) := HL.out.beside b_ zB
        clear HR
        have HR : Hid (Rd y6 r s n c p10) := R_
        clear R_ b_
        obtain ⟨M, hM⟩ : ∃ M : Nat, 40 + b = (M : Int) := ⟨(40 + b).toNat, by omega⟩
        have M1 : M ≤ 41 := by omega
        have hMw : IntKind.i64.wrap (40 + b) = (M : Int) := by rw [hM, IntKind.wrap_i64]; omega
        go_upto_region 19 with fail
        try rw [hM]
        clear hM hMw bb0 bb1
        go_loopw [3] (fun v wx => ∃ (l : Nat), l ≤ 41 ∧ lenJ v = l ∧ Hid (Rd wx r s n c p10) ∧ Hid (Beside r w wx) ∧ Hid (B ≤ wx.heap.size) ∧ Hid (JtL B wx v l)) (fun v _ => M - lenJ v)
        case atStart => exact ⟨k, by omega, rfl, HR, HS, HZ, HL⟩
        case round =>
          clear HR HS HZ HL
          obtain ⟨l, hl, hlen, HR, HS, HZ, HL⟩ := hrel
          rename World => wb
          obtain ⟨tv, cv2, ev⟩ := HL.out.val
          subst ev
          clear hlen
          by_cases h2 : l < M
          case pos =>
            have l1 : (l : Int) < (M : Int) := by omega
            have zz := HZ.out
            go_wp2_with (at_builtin; refine list_Job B (.slice tv l cv2) l (fun _ => 0) (.tmp 61) (.tmp 63) (by rfl) (by rfl) (by rfl) (by rfl) HL.out (Lst.nilJ _ _ _ _ _) (by omega) (by omega) (by omega) ?_; intro g9 cap9 w9 l9 b9)
            have HR9 : Hid (Rd w9 r s n c p10) := Rd.below' HR.out (b9.mono (by omega))
            have HS9 : Hid (Beside r w w9) := HS.out.onB (b9.mono zw)
            have HZ9 : Hid (B ≤ w9.heap.size) := Nat.le_trans zz b9.size
            have HL9 : Hid (JtL B w9 (.slice (some ⟨g9, 0, none⟩) (l + 1) cap9) (l + 1)) := l9
            clear l9 b9
            go_roundw
            case rel => exact ⟨l + 1, by omega, rfl, HR9, HS9, HZ9, HL9⟩
            case measure => show M - (l + 1) < M - l; omega
          case neg =>
            have l1 : ¬ (l : Int) < (M : Int) := by omega
            go_wp2
            go_ret
            exact ⟨_, l, cv2, p10, rfl, by omega, HL.out.low zw, HR.out, HS.out⟩
      case inr.inr.inr.inl =>
        have HP : Hid (JtL B y5 (.slice (some ⟨g, 0, none⟩) 0 cv) 0) := HL.out.cut
        go_wp2
        go_ret
        exact ⟨_, 0, cv, p9, rfl, by omega, HP.out.low zw, HR.out, HS.out⟩
      case inr.inr.inr.inr =>
        have e0 : (sw == 0) = false := by simp; omega
        have e1 : (sw == 1) = false := by simp; omega
        have e2 : (sw == 2) = false := by simp; omega
        have e3 : (sw == 3) = false := by simp; omega
        go_wp2
        go_ret
        exact ⟨_, k, cv, p9, rfl, by omega, HL.out.low zw, HR.out, HS.out⟩
end Go.Proofs.YtffjhbgnhnnfiaaDoor
