/-
What is proved: what DrawCommon draws: a tree with any numbers, and up to 101 groups of up to 13 each.
-/
import Derived.Test.YtpaiajeigdifcaaTrE
namespace Go.Proofs.Ytpaiajeigdifcaa
set_option maxRecDepth 40000
open Go.ChangeShapes Go.WideShapes Go.ChangeAt Go.RowKit
set_option linter.unusedVariables false
set_option linter.unusedSimpArgs false

def DcmPost (w : World) (e : Ending) (w' : World) : Prop := ∃ (x : Int) (t : Option Addr) (m cap : Nat) (X : Nat → Int) (K : Nat → Nat) (V : Nat → Nat → Int) (t2 : Option Addr) (m2 cap2 : Nat) (K2 : Nat → Nat) (V2 : Nat → Nat → Int), e = .returned (.tuple #[.agg #[.int .i64 x, .slice t m cap], .slice t2 m2 cap2]) ∧ m2 ≤ 101 ∧ (∀ i, i < m2 → K2 i ≤ 13) ∧ RowGat w' t m X K V ∧ RowLL w' t2 m2 K2 V2 ∧ Below w.heap.size w w'
set_option maxRecDepth 20000 in
set_option maxHeartbeats 8000000 in
theorem drawCommon_any (s : Option Addr) (n c : Nat) (w : World) (h : Hid (Code8 w s n)) : Calls Try.prog 10 #[.slice s n c] w fun e w' => DcmPost w e w' := by
  go_enter Try.func10, Try.ntmps10
  go_upto_region 1 with fail
  obtain ⟨y0, hw_⟩ : ∃ z, z = w.alloc (.cells #[.int .i64 0, .slice none 0 0] 26) := ⟨_, rfl⟩
  rw [← hw_]
  have b0 : Below w.heap.size w y0 := by rw [hw_]; exact below0 _ _
  obtain ⟨gq, hgq⟩ : ∃ z, z = w.heap.size := ⟨_, rfl⟩
  have HQ : Hid (Blk y0 gq [.int .i64 0, .slice none 0 0]) := by show Blk _ _ _; rw [hw_, hgq]; exact Blk.new w #[.int .i64 0, .slice none 0 0] 26
  have HGQ : Hid (w.heap.size ≤ gq) := by show _ ≤ _; omega
  try rw [← hgq]
  clear hw_ hgq
  go_wp2_with fail
  refine (open_any (h.out.below b0)).mono ?_
  rintro e y1 ⟨rfl, R_, b_⟩
  obtain ⟨r, hr⟩ : ∃ r, r = y0.heap.size := ⟨_, rfl⟩
  rw [← hr] at R_
  have HR : Hid (Rd y1 r s n c 0) := R_
  have zq : gq < r := by rw [hr]; exact HQ.out.1
  have zwr : w.heap.size ≤ r := by rw [hr]; exact b0.size
  have HS : Hid (Below w.heap.size w y1) := b0.trans (b_.mono b0.size)
  replace HQ : Hid (Blk y1 gq [.int .i64 0, .slice none 0 0]) := HQ.out.below b_
  try rw [← hr]
  clear R_ b_ b0 h hr
  go_upto_region 2 with fail
  go_wp2_with fail
  refine (tree_any HR).mono ?_
  rintro e y2 ⟨x, t, m, cap, q1, rfl, m21, -, G_, R_, b_⟩
  have zr1 : r < y1.heap.size := HR.out.1
  have HG : Hid (GtL (r + 1) y2 (.slice t m cap) m) := G_.low (by omega)
  replace HQ : Hid (Blk y2 gq [.int .i64 0, .slice none 0 0]) := HQ.out.beside b_ (by omega)
  replace HS : Hid (Below w.heap.size w y2) := HS.out.trans (b_.below zwr (HS.out.size))
  replace HR : Hid (Rd y2 r s n c q1) := R_
  clear G_ R_ b_ zr1
  go_upto_region 3 with fail
  obtain ⟨y3, hw_⟩ : ∃ z, z = y2.alloc (.cells #[.int .i64 x, .slice t m cap] 26) := ⟨_, rfl⟩
  rw [← hw_]
  have b_ : Below y2.heap.size y2 y3 := by rw [hw_]; exact below0 _ _
  obtain ⟨gt, hgt⟩ : ∃ z, z = y2.heap.size := ⟨_, rfl⟩
  have HF : Hid (Blk y3 gt [.int .i64 x, .slice t m cap]) := by show Blk _ _ _; rw [hw_, hgt]; exact Blk.new y2 #[.int .i64 x, .slice t m cap] 26
  have zt : r < gt := by rw [hgt]; exact HR.out.1
  replace HR : Hid (Rd y3 r s n c q1) := HR.out.below b_
  replace HQ : Hid (Blk y3 gq [.int .i64 0, .slice none 0 0]) := HQ.out.below b_
  replace HG : Hid (GtL (r + 1) y3 (.slice t m cap) m) := HG.out.below b_
  replace HS : Hid (Below w.heap.size w y3) := HS.out.trans (b_.mono HS.out.size)
  have HK : Hid (Beside r y3 y3) := Beside.of (Below.refl _ _)
  try rw [← hgt]
  clear hw_ b_ hgt
  go_upto_region 4 with fail
  obtain ⟨y4, hw_⟩ : ∃ z, z = y3.alloc (.cells #[] 30) := ⟨_, rfl⟩
  rw [← hw_]
  have b_ : Below y3.heap.size y3 y4 := by rw [hw_]; exact below0 _ _
  obtain ⟨B, hB⟩ : ∃ z, z = y3.heap.size := ⟨_, rfl⟩
  have HL : Hid (GrL B y4 (.slice (some ⟨B, 0, none⟩) 0 0) 0) := by show GrL _ _ _ _; rw [hw_, hB]; exact GrL.lit y3 _ (Nat.le_refl _)
  have zB : gt < B := by rw [hB]; exact HF.out.1
  have zB3 : y3.heap.size ≤ B := by omega
  have HZ : Hid (B ≤ y4.heap.size) := by show _ ≤ _; rw [hB]; exact b_.size
  replace HR : Hid (Rd y4 r s n c q1) := HR.out.below b_
  replace HQ : Hid (Blk y4 gq [.int .i64 0, .slice none 0 0]) := HQ.out.below b_
  replace HK : Hid (Beside r y3 y4) := HK.out.trans (Beside.of b_)
  replace HF : Hid (Blk y4 gt [.int .i64 x, .slice t m cap]) := HF.out.below b_
  replace HS : Hid (Below w.heap.size w y4) := HS.out.trans (b_.mono HS.out.size)
  try rw [← hB]
  clear hw_ b_ hB
  go_wp2_with fail
  refine (below_any 5 HR).mono ?_
  rintro e u1 ⟨nn, q2, rfl, nn0, -, nn2, R_, b_⟩
  have zr_ : r < y4.heap.size := HR.out.1
  replace HS : Hid (Below w.heap.size w u1) := HS.out.trans (b_.below zwr HS.out.size)
  replace HQ : Hid (Blk u1 gq [.int .i64 0, .slice none 0 0]) := HQ.out.beside b_ (by omega)
  replace HK : Hid (Beside r y3 u1) := HK.out.trans b_
  replace HF : Hid (Blk u1 gt [.int .i64 x, .slice t m cap]) := HF.out.beside b_ (by omega)
  replace HZ : Hid (B ≤ u1.heap.size) := Nat.le_trans HZ.out b_.2.2.2.1
  replace HL : Hid (GrL B u1 (.slice (some ⟨B, 0, none⟩) 0 0) 0) := HL.out.beside b_ (by omega)
  replace HR : Hid (Rd u1 r s n c q2) := R_
  clear R_ b_ zr_
  have nn5 : nn ≤ 4 := by omega
  clear nn2
  go_wp2_with fail
  go_loopw [6, 7] (fun v i wx => ∃ (k p5 : Nat), (k : Int) ≤ nn ∧ i = .int .i64 (nn - k) ∧ Hid (Rd wx r s n c p5) ∧ Hid (Below w.heap.size w wx) ∧ Hid (Blk wx gq [.int .i64 0, .slice none 0 0]) ∧ Hid (Beside r y3 wx) ∧ Hid (Blk wx gt [.int .i64 x, .slice t m cap]) ∧ Hid (B ≤ wx.heap.size) ∧ Hid (GrL B wx v k)) (fun _ i _ => (intOf i).toNat)
  case atStart => exact ⟨0, q2, by omega, by simp, HR, HS, HQ, HK, HF, HZ, HL⟩
  case round =>
    clear HR HS HQ HK HF HZ HL
    obtain ⟨k, p5, hk, rfl, HR, HS, HQ, HK, HF, HZ, HL⟩ := hrel
    rename World => wa
    obtain ⟨tv, cv, ev⟩ := HL.out.val
    subst ev
    by_cases hlt : (k : Int) < nn
    case pos =>
      have q0 : 0 < nn - (k : Int) := by omega
      have zz5 : B ≤ wa.heap.size := HZ.out
      have f0 := HF.out.2.2 0 _ rfl
      have fz := HF.out.1
      go_upto_region 7 with fail
      go_wp2_with fail
      refine (set_any x HR).mono ?_
      rintro e u2 ⟨t5, m5, c5, q5, U5, rfl, m513, L5, R_, b_⟩
      have zr_ : r < wa.heap.size := HR.out.1
      replace HS : Hid (Below w.heap.size w u2) := HS.out.trans (b_.below zwr HS.out.size)
      replace HQ : Hid (Blk u2 gq [.int .i64 0, .slice none 0 0]) := HQ.out.beside b_ (by omega)
      replace HK : Hid (Beside r y3 u2) := HK.out.trans b_
      replace HF : Hid (Blk u2 gt [.int .i64 x, .slice t m cap]) := HF.out.beside b_ (by omega)
      replace HZ : Hid (B ≤ u2.heap.size) := Nat.le_trans HZ.out b_.2.2.2.1
      replace HL : Hid (GrL B u2 (.slice tv k cv) k) := HL.out.beside b_ (by omega)
      replace HR : Hid (Rd u2 r s n c q5) := R_
      have HL5 : Hid (Lst B 2 1 u2 (.slice t5 m5 c5) m5 U5) := L5.lowL zz5
      have zz_ : B ≤ u2.heap.size := HZ.out
      clear R_ b_ zr_ L5 f0 fz
      go_wp2_with (at_builtin; refine list_Group B (.slice tv k cv) k U5 (.tmp 19) (.tmp 24) (by rfl) (by rfl) (by rfl) (by rfl) HL.out HL5.out (by omega) (by omega) (by omega) ?_; intro g9 cap9 w9 l9 b9)
      have zq9 := HGQ.out
      have HR9 : Hid (Rd w9 r s n c q5) := Rd.below' HR.out (b9.mono (by omega))
      have HS9 : Hid (Below w.heap.size w w9) := HS.out.trans (b9.mono (by omega))
      have HQ9 : Hid (Blk w9 gq [.int .i64 0, .slice none 0 0]) := HQ.out.belowB b9 (by omega)
      have HF9 : Hid (Blk w9 gt [.int .i64 x, .slice t m cap]) := HF.out.belowB b9 (by omega)
      have HK9 : Hid (Beside r y3 w9) := HK.out.onB (b9.mono zB3)
      have HZ9 : Hid (B ≤ w9.heap.size) := Nat.le_trans HZ.out b9.size
      have HL9 : Hid (GrL B w9 (.slice (some ⟨g9, 0, none⟩) (k + 1) cap9) (k + 1)) := l9
      go_roundw
      case rel => exact ⟨k + 1, q5, by omega, by congr 1; omega, HR9, HS9, HQ9, HK9, HF9, HZ9, HL9⟩
      case measure => simp [intOf]; omega
    case neg =>
      obtain rfl : nn = (k : Int) := by omega
      have k4 : k ≤ 4 := by omega
      go_upto_region 8 with fail
      go_wp2_with fail
      refine (once_any 30 (by omega) (by omega) HR).mono ?_
      rintro e u3 ⟨b, q6, rfl, R_, b_⟩
      have zr_ : r < wa.heap.size := HR.out.1
      replace HS : Hid (Below w.heap.size w u3) := HS.out.trans (b_.below zwr HS.out.size)
      replace HQ : Hid (Blk u3 gq [.int .i64 0, .slice none 0 0]) := HQ.out.beside b_ (by omega)
      replace HK : Hid (Beside r y3 u3) := HK.out.trans b_
      replace HF : Hid (Blk u3 gt [.int .i64 x, .slice t m cap]) := HF.out.beside b_ (by omega)
      replace HZ : Hid (B ≤ u3.heap.size) := Nat.le_trans HZ.out b_.2.2.2.1
      replace HL : Hid (GrL B u3 (.slice tv k cv) k) := HL.out.beside b_ (by omega)
      replace HR : Hid (Rd u3 r s n c q6) := R_
      clear R_ b_ zr_
      cases b
      case false =>
        have HG9 : Hid (GtL (r + 1) u3 (.slice t m cap) m) := HG.out.beside HK.out (by omega)
        have f0 := HF.out.2.2 0 _ rfl
        have f1 := HF.out.2.2 1 _ rfl
        have fz := HF.out.1
        have e0 := HQ.out.2.2 0 _ rfl
        have e1 := HQ.out.2.2 1 _ rfl
        have ef0 := HQ.out.2.1 0
        have ef1 := HQ.out.2.1 1
        have ez := HQ.out.1
        have n_ : gt ≠ gq := by omega
        have zq9 := HGQ.out
        have hst := store_slT
        have hGB : ∀ W2, Beside gq u3 W2 → (∃ X K V, RowGat W2 t m X K V) ∧ ∃ K2 V2, RowLL W2 tv k K2 V2 ∧ ∀ j, j < k → K2 j ≤ 13 := fun W2 hb => ⟨(by obtain ⟨X, K, V, hrow, _⟩ := (HG9.out.beside hb (by omega)).row; exact ⟨X, K, V, hrow⟩), (HL.out.beside hb (by omega)).rows⟩
        have BS := HS.out
        go_wp2
        refine bodyPost_ret (v := .tuple #[.agg #[.int .i64 x, .slice t m cap], .slice tv k cv]) (by simp [results, Try.results10, go_sem, f0, f1, e0, e1, n_, n_.symm]) rfl ?_
        obtain ⟨⟨X, K, V, hrow⟩, K2, V2, hll, h13⟩ := hGB _ ((Beside.setCell gq _ 0 _).trans (Beside.setCell gq _ 1 _))
        exact ⟨x, t, m, cap, X, K, V, tv, k, cv, K2, V2, rfl, by omega, h13, hrow, hll, BS.trans (show Below w.heap.size u3 _ from (by repeat (first | with_reducible exact Below.refl _ _ | with_reducible refine Below.setCell ?_ (by first | omega | (simp; done) | (simp; omega)) _ | with_reducible refine bDrewN ?_ _ | with_reducible refine Below.drew ?_ | with_reducible refine Below.alloc ?_ (by first | omega | (simp; done) | (simp; omega)) _)))⟩
      case true =>
        go_upto_region 9 with fail
        go_wp2_with fail
        refine (below_any 2 HR).mono ?_
        rintro e u4 ⟨n2, q7, rfl, n20, -, n22, R_, b_⟩
        have zr_ : r < u3.heap.size := HR.out.1
        replace HS : Hid (Below w.heap.size w u4) := HS.out.trans (b_.below zwr HS.out.size)
        replace HQ : Hid (Blk u4 gq [.int .i64 0, .slice none 0 0]) := HQ.out.beside b_ (by omega)
        replace HK : Hid (Beside r y3 u4) := HK.out.trans b_
        replace HF : Hid (Blk u4 gt [.int .i64 x, .slice t m cap]) := HF.out.beside b_ (by omega)
        replace HZ : Hid (B ≤ u4.heap.size) := Nat.le_trans HZ.out b_.2.2.2.1
        replace HL : Hid (GrL B u4 (.slice tv k cv) k) := HL.out.beside b_ (by omega)
        replace HR : Hid (Rd u4 r s n c q7) := R_
        clear R_ b_ zr_
        obtain ⟨M, hM⟩ : ∃ M : Nat, 100 + n2 = (M : Int) := ⟨(100 + n2).toNat, by omega⟩
        have M1 : M ≤ 101 := by omega
        have hml := make_ll M (by omega)
        have hMw : IntKind.i64.wrap (100 + n2) = (M : Int) := by rw [hM, IntKind.wrap_i64]; omega
        have zz_ : B ≤ u4.heap.size := HZ.out
        go_upto_region 10 with fail
        obtain ⟨w8, hw8⟩ : ∃ z, z = u4.alloc (.cells (madeCells #[.slice none 0 0] M) 30) := ⟨_, rfl⟩
        have HL8 : Hid (GrL B w8 (.slice (some ⟨u4.heap.size, 0, none⟩) M M) M) := by show GrL _ _ _ _; rw [hw8]; exact GrL.made u4 B M zz_ (by omega)
        have b_ : Below u4.heap.size u4 w8 := by rw [hw8]; exact below0 _ _
        rw [← hw8]
        replace HQ : Hid (Blk w8 gq [.int .i64 0, .slice none 0 0]) := HQ.out.below b_
        replace HF : Hid (Blk w8 gt [.int .i64 x, .slice t m cap]) := HF.out.below b_
        replace HK : Hid (Beside r y3 w8) := HK.out.trans (Beside.of b_)
        replace HS : Hid (Below w.heap.size w w8) := HS.out.trans (b_.mono HS.out.size)
        obtain ⟨G, hG⟩ : ∃ G, u4.heap.size = G := ⟨_, rfl⟩
        rw [hG] at HL8
        try rw [hG]
        clear HL
        have HL : Hid (GrL B w8 (.slice (some ⟨G, 0, none⟩) M M) M) := HL8
        clear hM hMw hml hw8 b_ HL8 hG zz_ n20 n22
        have HG9 : Hid (GtL (r + 1) w8 (.slice t m cap) m) := HG.out.beside HK.out (by omega)
        have f0 := HF.out.2.2 0 _ rfl
        have f1 := HF.out.2.2 1 _ rfl
        have fz := HF.out.1
        have e0 := HQ.out.2.2 0 _ rfl
        have e1 := HQ.out.2.2 1 _ rfl
        have ef0 := HQ.out.2.1 0
        have ef1 := HQ.out.2.1 1
        have ez := HQ.out.1
        have n_ : gt ≠ gq := by omega
        have zq9 := HGQ.out
        have hst := store_slT
        have hGB : ∀ W2, Beside gq w8 W2 → (∃ X K V, RowGat W2 t m X K V) ∧ ∃ K2 V2, RowLL W2 (some ⟨G, 0, none⟩) M K2 V2 ∧ ∀ j, j < M → K2 j ≤ 13 := fun W2 hb => ⟨(by obtain ⟨X, K, V, hrow, _⟩ := (HG9.out.beside hb (by omega)).row; exact ⟨X, K, V, hrow⟩), (HL.out.beside hb (by omega)).rows⟩
        have BS := HS.out
        go_wp2
        refine bodyPost_ret (v := .tuple #[.agg #[.int .i64 x, .slice t m cap], .slice (some ⟨G, 0, none⟩) M M]) (by simp [results, Try.results10, go_sem, f0, f1, e0, e1, n_, n_.symm]) rfl ?_
        obtain ⟨⟨X, K, V, hrow⟩, K2, V2, hll, h13⟩ := hGB _ ((Beside.setCell gq _ 0 _).trans (Beside.setCell gq _ 1 _))
        exact ⟨x, t, m, cap, X, K, V, (some ⟨G, 0, none⟩), M, M, K2, V2, rfl, by omega, h13, hrow, hll, BS.trans (show Below w.heap.size w8 _ from (by repeat (first | with_reducible exact Below.refl _ _ | with_reducible refine Below.setCell ?_ (by first | omega | (simp; done) | (simp; omega)) _ | with_reducible refine bDrewN ?_ _ | with_reducible refine Below.drew ?_ | with_reducible refine Below.alloc ?_ (by first | omega | (simp; done) | (simp; omega)) _)))⟩
end Go.Proofs.Ytpaiajeigdifcaa
