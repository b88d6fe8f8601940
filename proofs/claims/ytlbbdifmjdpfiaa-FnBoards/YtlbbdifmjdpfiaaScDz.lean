/-
What is proved: the draw of a scan.
-/
import Derived.Test.YtlbbdifmjdpfiaaScAz
import Derived.Test.YtlbbdifmjdpfiaaNrAz
import Derived.Test.YtlbbdifmjdpfiaaZdA
import Derived.Deep.DeepCutAuto
import Derived.Deep.RegionHeldLaw
namespace Go.Proofs.Ytlbbdifmjdpfiaa
set_option maxRecDepth 40000
open Go.ChangeShapes Go.WideShapes Go.ChangeAt Go.RowKit
set_option linter.unusedVariables false
set_option linter.unusedSimpArgs false

def ScPost (r : Nat) (s : Option Addr) (n c : Nat) (w : World) (e : Ending) (w' : World) : Prop := ∃ (mo : Int) (s1 : Option Addr) (n1 c1 : Nat) (s2 : Option Addr) (n2 c2 : Nat) (s3 : Option Addr) (n3 c3 p' : Nat), e = .returned (.agg #[.int .i64 mo, .slice s1 n1 c1, .slice s2 n2 c2, .slice s3 n3 c3]) ∧ n1 ≤ 70000 ∧ n2 ≤ 70000 ∧ n3 ≤ 70000 ∧ Sc3 w.heap.size w' (.slice s1 n1 c1) n1 (.slice s2 n2 c2) n2 (.slice s3 n3 c3) n3 ∧ Rd w' r s n c p' ∧ Beside r w w'
set_option maxRecDepth 20000 in
set_option maxHeartbeats 16000000 in
theorem scan_any {r : Nat} {s : Option Addr} {n c p : Nat} {w : World} (N : Nat) (hN0 : 0 < N) (hN : N ≤ 69000) (h : Hid (Rd w r s n c p)) :
    Calls Try.prog 44 #[.pointer (some ⟨r, 0, none⟩), .int .i64 (N : Int)] w fun e w' => ScPost r s n c w e w' := by
  go_enter Try.func44, Try.ntmps44
  go_upto_region 1 with fail
  obtain ⟨wa, hwa⟩ : ∃ z, z = w.alloc (.cells #[.int .i64 0, .slice none 0 0, .slice none 0 0, .slice none 0 0] 39) := ⟨_, rfl⟩
  try rw [← hwa]
  obtain ⟨g4, hg4⟩ : ∃ z, z = w.heap.size := ⟨_, rfl⟩
  have ba : Below w.heap.size w wa := by rw [hwa]; exact below0 _ _
  have H4a : Hid (Blk wa g4 [.int .i64 0, .slice none 0 0, .slice none 0 0, .slice none 0 0]) := by show Blk _ _ _; rw [hwa, hg4]; exact Blk.new w #[.int .i64 0, .slice none 0 0, .slice none 0 0, .slice none 0 0] _
  have HRa : Hid (Rd wa r s n c p) := h.out.below ba
  have HSa : Hid (Beside r w wa) := Beside.of ba
  have zr4 : r < g4 := by have := h.out.1; omega
  have zw4 : w.heap.size ≤ g4 := by omega
  try rw [← hg4]
  clear hwa ba hg4 h
  go_wp2_with fail
  refine (below_any 3 HRa).mono ?_
  rintro e w1 ⟨mo, p1, rfl, k0_, k6_, km_, R1, b1⟩
  have H4b : Hid (Blk w1 g4 [.int .i64 0, .slice none 0 0, .slice none 0 0, .slice none 0 0]) := H4a.out.beside b1 (by omega)
  have HSb : Hid (Beside r w w1) := HSa.out.trans b1
  go_upto_region 2 with fail
  obtain ⟨w2, hw2⟩ : ∃ z, z = w1.alloc (.cells #[.int .i64 mo, .slice none 0 0, .slice none 0 0, .slice none 0 0] 39) := ⟨_, rfl⟩
  try rw [← hw2]
  obtain ⟨g5, hg5⟩ : ∃ z, z = w1.heap.size := ⟨_, rfl⟩
  have b2 : Below w1.heap.size w1 w2 := by rw [hw2]; exact below0 _ _
  have H5 : Hid (Blk w2 g5 [.int .i64 mo, .slice none 0 0, .slice none 0 0, .slice none 0 0]) := by show Blk _ _ _; rw [hw2, hg5]; exact Blk.new w1 #[.int .i64 mo, .slice none 0 0, .slice none 0 0, .slice none 0 0] _
  have H4 : Hid (Blk w2 g4 [.int .i64 0, .slice none 0 0, .slice none 0 0, .slice none 0 0]) := H4b.out.below b2
  have HS : Hid (Beside r w w2) := HSb.out.trans (Beside.of b2)
  have HR : Hid (∃ q, Rd w2 r s n c q) := ⟨_, R1.below b2⟩
  have z45 : g4 < g5 := by have := H4b.out.1; omega
  obtain ⟨B, hB⟩ : ∃ B, B = g5 + 1 := ⟨_, rfl⟩
  have z5B : g5 < B := by omega
  have zB : B ≤ w2.heap.size := by have := H5.out.1; omega
  have HC : Hid (Sc3 B w2 (.slice none 0 0) 0 (.slice none 0 0) 0 (.slice none 0 0) 0) := Sc3.nil _ _
  try rw [← hg5]
  clear hw2 b2 hg5 hB k0_ k6_ km_ R1 b1 H4a HRa HSa H4b HSb
  go_wp2_with fail
  go_loopw [6] (fun v wx => ∃ (i : Nat) (mo : Int) (s1 : Option Addr) (n1 c1 : Nat) (s2 : Option Addr) (n2 c2 : Nat) (s3 : Option Addr) (n3 c3 : Nat), v = .int .i64 (i : Int) ∧ i ≤ N ∧ n1 ≤ i ∧ n2 = 0 ∧ n3 = 0 ∧ Hid (∃ q, Rd wx r s n c q) ∧ Hid (Beside r w wx) ∧ Hid (Blk wx g4 [.int .i64 0, .slice none 0 0, .slice none 0 0, .slice none 0 0]) ∧ Hid (Blk wx g5 [.int .i64 mo, .slice s1 n1 c1, .slice s2 n2 c2, .slice s3 n3 c3]) ∧ Hid (Sc3 B wx (.slice s1 n1 c1) n1 (.slice s2 n2 c2) n2 (.slice s3 n3 c3) n3) ∧ B ≤ wx.heap.size) (fun v _ => N - (intOf v).toNat)
  case atStart => exact ⟨0, mo, none, 0, 0, none, 0, 0, none, 0, 0, rfl, Nat.zero_le _, Nat.le_refl _, rfl, rfl, HR, HS, H4, H5, HC, zB⟩
  case round =>
    clear HR HS H4 H5 HC zB
    obtain ⟨i, mo, s1, n1, c1, s2, n2, c2, s3, n3, c3, rfl, hi, hn1, hn2, hn3, HR, HS, H4, H5, HC, zB⟩ := hrel
    rename World => wr
    by_cases hk : i < N
    case pos =>
      have hki : (i : Int) < (N : Int) := by omega
      go_upto_region 5 with fail
      refine wp_region_held_drew (S := fun w' => True) (by kernel_rfl) ?_ (fun hHeld => ?_)
      · trivial
      obtain ⟨v0, hv0⟩ : ∃ z, z = wr.drew := ⟨_, rfl⟩
      try rw [← hv0] at hHeld
      rw [← hv0]
      have bv0 : Below wr.heap.size wr v0 := by rw [hv0]; exact Below.drew (Below.refl _ _)
      clear hv0
      replace H4 : Hid (Blk v0 g4 [.int .i64 0, .slice none 0 0, .slice none 0 0, .slice none 0 0]) := H4.out.below bv0
      replace H5 : Hid (Blk v0 g5 [.int .i64 mo, .slice s1 n1 c1, .slice s2 n2 c2, .slice s3 n3 c3]) := H5.out.below bv0
      replace HC : Hid (Sc3 B v0 (.slice s1 n1 c1) n1 (.slice s2 n2 c2) n2 (.slice s3 n3 c3) n3) := HC.out.below bv0
      replace HS : Hid (Beside r w v0) := HS.out.trans (Beside.of bv0)
      replace zB : B ≤ v0.heap.size := Nat.le_trans zB bv0.size
      replace HR : Hid (∃ q, Rd v0 r s n c q) := by obtain ⟨q_, R_⟩ := HR.out; exact ⟨q_, R_.below bv0⟩
      clear bv0
      refine wpAnyH_take (i := 0) (v := .pointer (some ⟨g5, 1, none⟩)) rfl (by kernel_rfl) (by kernel_rfl) (by kernel_rfl) (fun _ _ _ h => h) (Or.inl ⟨by kernel_rfl, ?_⟩) hHeld ?_
      · intro w' hSw
        first | (go_simp; done) | (go_simp; with_reducible rfl) | (go_simp; rw [IntKind.wrap_i64]; omega) | (go_simp; omega)
      simp only [Act.put, List.setIfInBounds_toArray, List.set_cons_zero, List.set_cons_succ]
      refine wpAnyH_take (i := 2) (v := .pointer (some ⟨r, 0, none⟩)) rfl (by kernel_rfl) (by kernel_rfl) (by kernel_rfl) (fun _ _ _ h => h) (Or.inl ⟨by kernel_rfl, ?_⟩) hHeld ?_
      · intro w' hSw
        first | (go_simp; done) | (go_simp; with_reducible rfl) | (go_simp; rw [IntKind.wrap_i64]; omega) | (go_simp; omega)
      simp only [Act.put, List.setIfInBounds_toArray, List.set_cons_zero, List.set_cons_succ]
      refine wpAnyH_ready (rs := [1, 3]) (by kernel_rfl) (by simp) ?_
      refine (AllReadyH.cons rfl (fun KK hK => ?_) (AllReadyH.cons rfl (fun KK hK => ?_) AllReadyH.nil))
      · have c_ := H5.out.2.2 1 _ rfl
        have z_ := H5.out.1
        go_simp
        clear c_ z_
        refine hK.out _ _ (trivial) (fun hHeld => ?_)
        clear hK KK
        refine wpAnyH_ready (rs := [3]) (by kernel_rfl) (by simp) ?_
        refine (AllReadyH.cons rfl (fun KK hK => ?_) AllReadyH.nil)
        obtain ⟨q0, R0⟩ := HR.out
        go_simp
        go_wp2_with (first | (go_at_call 45; refine (once_any 3 (by omega) (by omega) R0).mono ?_; rintro e v0_2 ⟨bx, p9, rfl, R9, b9⟩))
        replace H4 : Hid (Blk v0_2 g4 [.int .i64 0, .slice none 0 0, .slice none 0 0, .slice none 0 0]) := H4.out.beside b9 (by omega)
        replace H5 : Hid (Blk v0_2 g5 [.int .i64 mo, .slice s1 n1 c1, .slice s2 n2 c2, .slice s3 n3 c3]) := H5.out.beside b9 (by omega)
        replace HC : Hid (Sc3 B v0_2 (.slice s1 n1 c1) n1 (.slice s2 n2 c2) n2 (.slice s3 n3 c3) n3) := HC.out.beside b9 (by omega)
        replace HS : Hid (Beside r w v0_2) := HS.out.trans b9
        replace zB : B ≤ v0_2.heap.size := Nat.le_trans zB b9.2.2.2.1
        replace HR : Hid (∃ q, Rd v0_2 r s n c q) := ⟨_, R9⟩
        clear R0 R9 b9
        refine hK.out _ _ (trivial) (fun hHeld => ?_)
        clear hK KK
        refine wpAnyH_ready (rs := [4]) (by kernel_rfl) (by simp) ?_
        refine (AllReadyH.cons rfl (fun KK hK => ?_) AllReadyH.nil)
        go_simp
        obtain ⟨v0_3, hv_⟩ : ∃ z, z = v0_2.alloc (.cells #[.bool bx] 4) := ⟨_, rfl⟩
        rw [← hv_]
        obtain ⟨lb, hlb⟩ : ∃ z, z = v0_2.heap.size := ⟨_, rfl⟩
        have b_ : Below v0_2.heap.size v0_2 v0_3 := by rw [hv_]; exact below0 _ _
        have HLB : Hid (Blk v0_3 lb [.bool bx]) := by show Blk _ _ _; rw [hv_, hlb]; exact Blk.new v0_2 #[.bool bx] _
        replace H4 : Hid (Blk v0_3 g4 [.int .i64 0, .slice none 0 0, .slice none 0 0, .slice none 0 0]) := H4.out.below b_
        replace H5 : Hid (Blk v0_3 g5 [.int .i64 mo, .slice s1 n1 c1, .slice s2 n2 c2, .slice s3 n3 c3]) := H5.out.below b_
        replace HC : Hid (Sc3 B v0_3 (.slice s1 n1 c1) n1 (.slice s2 n2 c2) n2 (.slice s3 n3 c3) n3) := HC.out.below b_
        replace HS : Hid (Beside r w v0_3) := HS.out.trans (Beside.of b_)
        replace zB : B ≤ v0_3.heap.size := Nat.le_trans zB b_.size
        replace HR : Hid (∃ q, Rd v0_3 r s n c q) := by obtain ⟨q_, R_⟩ := HR.out; exact ⟨q_, R_.below b_⟩
        try rw [← hlb]
        clear hv_ hlb b_
        refine hK.out _ _ (trivial) (fun hHeld => ?_)
        clear hK KK
        refine wpAnyH_ready (rs := [5]) (by kernel_rfl) (by simp) ?_
        refine (AllReadyH.cons rfl (fun KK hK => ?_) AllReadyH.nil)
        refine wp_sc1 HC.out (.tmp 17) (.tmp 20) (by rfl) (by rfl) lb (by rfl) (HLB.out.2.2 0 _ rfl) (by omega) zB ?_
        intro g9 cap9 v0_4 hc9 b9
        replace HC : Hid (Sc3 B v0_4 (.slice (some ⟨g9, 0, none⟩) (n1 + 1) cap9) (n1 + 1) (.slice s2 n2 c2) n2 (.slice s3 n3 c3) n3) := hc9
        replace H4 : Hid (Blk v0_4 g4 [.int .i64 0, .slice none 0 0, .slice none 0 0, .slice none 0 0]) := H4.out.belowB b9 (by omega)
        replace H5 : Hid (Blk v0_4 g5 [.int .i64 mo, .slice s1 n1 c1, .slice s2 n2 c2, .slice s3 n3 c3]) := H5.out.belowB b9 (by omega)
        replace HR : Hid (∃ q, Rd v0_4 r s n c q) := by obtain ⟨q_, R_⟩ := HR.out; exact ⟨q_, Rd.below' R_ (b9.mono (by omega))⟩
        replace HS : Hid (Beside r w v0_4) := HS.out.onB (b9.mono (by omega))
        replace zB : B ≤ v0_4.heap.size := Nat.le_trans zB b9.size
        clear hc9 b9 HLB
        go_simp
        refine hK.out _ _ (trivial) (fun hHeld => ?_)
        clear hK KK
        refine wpAnyH_take (i := 6) (v := .pointer (some ⟨g5, 1, none⟩)) rfl (by kernel_rfl) (by kernel_rfl) (by kernel_rfl) (fun _ _ _ h => h) (Or.inl ⟨by kernel_rfl, ?_⟩) hHeld ?_
        · intro w' hSw
          first | (go_simp; done) | (go_simp; with_reducible rfl) | (go_simp; rw [IntKind.wrap_i64]; omega) | (go_simp; omega)
        simp only [Act.put, List.setIfInBounds_toArray, List.set_cons_zero, List.set_cons_succ]
        refine wpAnyH_ready (rs := [7]) (by kernel_rfl) (by simp) ?_
        refine (AllReadyH.cons rfl (fun KK hK => ?_) AllReadyH.nil)
        have u0 := H5.out.2.2 1 _ rfl
        have f0 := H5.out.2.1 1
        have uz := H5.out.1
        have hst := store_slT
        go_simp
        obtain ⟨v0_5, hv_⟩ : ∃ z, z = v0_4.setCell ⟨g5, 1, none⟩ (.slice (some ⟨g9, 0, none⟩) (n1 + 1) cap9) := ⟨_, rfl⟩
        rw [← hv_]
        have b9 : Beside g5 v0_4 v0_5 := by rw [hv_]; exact Beside.setCell g5 _ 1 _
        replace H5 : Hid (Blk v0_5 g5 [.int .i64 mo, .slice (some ⟨g9, 0, none⟩) (n1 + 1) cap9, .slice s2 n2 c2, .slice s3 n3 c3]) := by show Blk _ _ _; rw [hv_]; exact H5.out.set 1 _
        replace H4 : Hid (Blk v0_5 g4 [.int .i64 0, .slice none 0 0, .slice none 0 0, .slice none 0 0]) := H4.out.beside b9 (by omega)
        replace HC : Hid (Sc3 B v0_5 (.slice (some ⟨g9, 0, none⟩) (n1 + 1) cap9) (n1 + 1) (.slice s2 n2 c2) n2 (.slice s3 n3 c3) n3) := HC.out.beside b9 (by omega)
        replace HR : Hid (∃ q, Rd v0_5 r s n c q) := by obtain ⟨q_, R_⟩ := HR.out; have zr_ := R_.1; exact ⟨q_, Rd.below' R_ (b9.below (by omega) (by omega))⟩
        replace HS : Hid (Beside r w v0_5) := HS.out.onB (b9.below (by omega) HS.out.2.2.2.1)
        replace zB : B ≤ v0_5.heap.size := Nat.le_trans zB b9.2.2.2.1
        clear hv_ b9 u0 f0 uz hst
        refine hK.out _ _ (trivial) (fun hHeld => ?_)
        clear hK KK
        refine wpAnyH_done (by kernel_rfl) ?_ _
        clear hHeld
        go_wp2_with fail
        go_roundw
        case rel => exact ⟨i + 1, mo, some ⟨g9, 0, none⟩, n1 + 1, cap9, s2, n2, c2, s3, n3, c3, by go_num, by omega, by omega, hn2, hn3, HR, HS, H4, H5, HC, zB⟩
        case measure => first | (simp [intOf]; done) | (simp [intOf]; omega)
      · obtain ⟨q0, R0⟩ := HR.out
        go_simp
        go_wp2_with (first | (go_at_call 45; refine (once_any 3 (by omega) (by omega) R0).mono ?_; rintro e v0_6 ⟨bx, p9, rfl, R9, b9⟩))
        replace H4 : Hid (Blk v0_6 g4 [.int .i64 0, .slice none 0 0, .slice none 0 0, .slice none 0 0]) := H4.out.beside b9 (by omega)
        replace H5 : Hid (Blk v0_6 g5 [.int .i64 mo, .slice s1 n1 c1, .slice s2 n2 c2, .slice s3 n3 c3]) := H5.out.beside b9 (by omega)
        replace HC : Hid (Sc3 B v0_6 (.slice s1 n1 c1) n1 (.slice s2 n2 c2) n2 (.slice s3 n3 c3) n3) := HC.out.beside b9 (by omega)
        replace HS : Hid (Beside r w v0_6) := HS.out.trans b9
        replace zB : B ≤ v0_6.heap.size := Nat.le_trans zB b9.2.2.2.1
        replace HR : Hid (∃ q, Rd v0_6 r s n c q) := ⟨_, R9⟩
        clear R0 R9 b9
        refine hK.out _ _ (trivial) (fun hHeld => ?_)
        clear hK KK
        refine wpAnyH_ready (rs := [1, 4]) (by kernel_rfl) (by simp) ?_
        refine (AllReadyH.cons rfl (fun KK hK => ?_) (AllReadyH.cons rfl (fun KK hK => ?_) AllReadyH.nil))
        · have c_ := H5.out.2.2 1 _ rfl
          have z_ := H5.out.1
          go_simp
          clear c_ z_
          refine hK.out _ _ (trivial) (fun hHeld => ?_)
          clear hK KK
          refine wpAnyH_ready (rs := [4]) (by kernel_rfl) (by simp) ?_
          refine (AllReadyH.cons rfl (fun KK hK => ?_) AllReadyH.nil)
          go_simp
          obtain ⟨v0_8, hv_⟩ : ∃ z, z = v0_6.alloc (.cells #[.bool bx] 4) := ⟨_, rfl⟩
          rw [← hv_]
          obtain ⟨lb, hlb⟩ : ∃ z, z = v0_6.heap.size := ⟨_, rfl⟩
          have b_ : Below v0_6.heap.size v0_6 v0_8 := by rw [hv_]; exact below0 _ _
          have HLB : Hid (Blk v0_8 lb [.bool bx]) := by show Blk _ _ _; rw [hv_, hlb]; exact Blk.new v0_6 #[.bool bx] _
          replace H4 : Hid (Blk v0_8 g4 [.int .i64 0, .slice none 0 0, .slice none 0 0, .slice none 0 0]) := H4.out.below b_
          replace H5 : Hid (Blk v0_8 g5 [.int .i64 mo, .slice s1 n1 c1, .slice s2 n2 c2, .slice s3 n3 c3]) := H5.out.below b_
          replace HC : Hid (Sc3 B v0_8 (.slice s1 n1 c1) n1 (.slice s2 n2 c2) n2 (.slice s3 n3 c3) n3) := HC.out.below b_
          replace HS : Hid (Beside r w v0_8) := HS.out.trans (Beside.of b_)
          replace zB : B ≤ v0_8.heap.size := Nat.le_trans zB b_.size
          replace HR : Hid (∃ q, Rd v0_8 r s n c q) := by obtain ⟨q_, R_⟩ := HR.out; exact ⟨q_, R_.below b_⟩
          try rw [← hlb]
          clear hv_ hlb b_
          refine hK.out _ _ (trivial) (fun hHeld => ?_)
          clear hK KK
          refine wpAnyH_ready (rs := [5]) (by kernel_rfl) (by simp) ?_
          refine (AllReadyH.cons rfl (fun KK hK => ?_) AllReadyH.nil)
          refine wp_sc1 HC.out (.tmp 17) (.tmp 20) (by rfl) (by rfl) lb (by rfl) (HLB.out.2.2 0 _ rfl) (by omega) zB ?_
          intro g9 cap9 v0_9 hc9 b9
          replace HC : Hid (Sc3 B v0_9 (.slice (some ⟨g9, 0, none⟩) (n1 + 1) cap9) (n1 + 1) (.slice s2 n2 c2) n2 (.slice s3 n3 c3) n3) := hc9
          replace H4 : Hid (Blk v0_9 g4 [.int .i64 0, .slice none 0 0, .slice none 0 0, .slice none 0 0]) := H4.out.belowB b9 (by omega)
          replace H5 : Hid (Blk v0_9 g5 [.int .i64 mo, .slice s1 n1 c1, .slice s2 n2 c2, .slice s3 n3 c3]) := H5.out.belowB b9 (by omega)
          replace HR : Hid (∃ q, Rd v0_9 r s n c q) := by obtain ⟨q_, R_⟩ := HR.out; exact ⟨q_, Rd.below' R_ (b9.mono (by omega))⟩
          replace HS : Hid (Beside r w v0_9) := HS.out.onB (b9.mono (by omega))
          replace zB : B ≤ v0_9.heap.size := Nat.le_trans zB b9.size
          clear hc9 b9 HLB
          go_simp
          refine hK.out _ _ (trivial) (fun hHeld => ?_)
          clear hK KK
          refine wpAnyH_take (i := 6) (v := .pointer (some ⟨g5, 1, none⟩)) rfl (by kernel_rfl) (by kernel_rfl) (by kernel_rfl) (fun _ _ _ h => h) (Or.inl ⟨by kernel_rfl, ?_⟩) hHeld ?_
          · intro w' hSw
            first | (go_simp; done) | (go_simp; with_reducible rfl) | (go_simp; rw [IntKind.wrap_i64]; omega) | (go_simp; omega)
          simp only [Act.put, List.setIfInBounds_toArray, List.set_cons_zero, List.set_cons_succ]
          refine wpAnyH_ready (rs := [7]) (by kernel_rfl) (by simp) ?_
          refine (AllReadyH.cons rfl (fun KK hK => ?_) AllReadyH.nil)
          have u0 := H5.out.2.2 1 _ rfl
          have f0 := H5.out.2.1 1
          have uz := H5.out.1
          have hst := store_slT
          go_simp
          obtain ⟨v0_10, hv_⟩ : ∃ z, z = v0_9.setCell ⟨g5, 1, none⟩ (.slice (some ⟨g9, 0, none⟩) (n1 + 1) cap9) := ⟨_, rfl⟩
          rw [← hv_]
          have b9 : Beside g5 v0_9 v0_10 := by rw [hv_]; exact Beside.setCell g5 _ 1 _
          replace H5 : Hid (Blk v0_10 g5 [.int .i64 mo, .slice (some ⟨g9, 0, none⟩) (n1 + 1) cap9, .slice s2 n2 c2, .slice s3 n3 c3]) := by show Blk _ _ _; rw [hv_]; exact H5.out.set 1 _
          replace H4 : Hid (Blk v0_10 g4 [.int .i64 0, .slice none 0 0, .slice none 0 0, .slice none 0 0]) := H4.out.beside b9 (by omega)
          replace HC : Hid (Sc3 B v0_10 (.slice (some ⟨g9, 0, none⟩) (n1 + 1) cap9) (n1 + 1) (.slice s2 n2 c2) n2 (.slice s3 n3 c3) n3) := HC.out.beside b9 (by omega)
          replace HR : Hid (∃ q, Rd v0_10 r s n c q) := by obtain ⟨q_, R_⟩ := HR.out; have zr_ := R_.1; exact ⟨q_, Rd.below' R_ (b9.below (by omega) (by omega))⟩
          replace HS : Hid (Beside r w v0_10) := HS.out.onB (b9.below (by omega) HS.out.2.2.2.1)
          replace zB : B ≤ v0_10.heap.size := Nat.le_trans zB b9.2.2.2.1
          clear hv_ b9 u0 f0 uz hst
          refine hK.out _ _ (trivial) (fun hHeld => ?_)
          clear hK KK
          refine wpAnyH_done (by kernel_rfl) ?_ _
          clear hHeld
          go_wp2_with fail
          go_roundw
          case rel => exact ⟨i + 1, mo, some ⟨g9, 0, none⟩, n1 + 1, cap9, s2, n2, c2, s3, n3, c3, by go_num, by omega, by omega, hn2, hn3, HR, HS, H4, H5, HC, zB⟩
          case measure => first | (simp [intOf]; done) | (simp [intOf]; omega)
        · go_simp
          obtain ⟨v0_11, hv_⟩ : ∃ z, z = v0_6.alloc (.cells #[.bool bx] 4) := ⟨_, rfl⟩
          rw [← hv_]
          obtain ⟨lb, hlb⟩ : ∃ z, z = v0_6.heap.size := ⟨_, rfl⟩
          have b_ : Below v0_6.heap.size v0_6 v0_11 := by rw [hv_]; exact below0 _ _
          have HLB : Hid (Blk v0_11 lb [.bool bx]) := by show Blk _ _ _; rw [hv_, hlb]; exact Blk.new v0_6 #[.bool bx] _
          replace H4 : Hid (Blk v0_11 g4 [.int .i64 0, .slice none 0 0, .slice none 0 0, .slice none 0 0]) := H4.out.below b_
          replace H5 : Hid (Blk v0_11 g5 [.int .i64 mo, .slice s1 n1 c1, .slice s2 n2 c2, .slice s3 n3 c3]) := H5.out.below b_
          replace HC : Hid (Sc3 B v0_11 (.slice s1 n1 c1) n1 (.slice s2 n2 c2) n2 (.slice s3 n3 c3) n3) := HC.out.below b_
          replace HS : Hid (Beside r w v0_11) := HS.out.trans (Beside.of b_)
          replace zB : B ≤ v0_11.heap.size := Nat.le_trans zB b_.size
          replace HR : Hid (∃ q, Rd v0_11 r s n c q) := by obtain ⟨q_, R_⟩ := HR.out; exact ⟨q_, R_.below b_⟩
          try rw [← hlb]
          clear hv_ hlb b_
          refine hK.out _ _ (trivial) (fun hHeld => ?_)
          clear hK KK
          refine wpAnyH_ready (rs := [1]) (by kernel_rfl) (by simp) ?_
          refine (AllReadyH.cons rfl (fun KK hK => ?_) AllReadyH.nil)
          have c_ := H5.out.2.2 1 _ rfl
          have z_ := H5.out.1
          go_simp
          clear c_ z_
          refine hK.out _ _ (trivial) (fun hHeld => ?_)
          clear hK KK
          refine wpAnyH_ready (rs := [5]) (by kernel_rfl) (by simp) ?_
          refine (AllReadyH.cons rfl (fun KK hK => ?_) AllReadyH.nil)
          refine wp_sc1 HC.out (.tmp 17) (.tmp 20) (by rfl) (by rfl) lb (by rfl) (HLB.out.2.2 0 _ rfl) (by omega) zB ?_
          intro g9 cap9 v0_13 hc9 b9
          replace HC : Hid (Sc3 B v0_13 (.slice (some ⟨g9, 0, none⟩) (n1 + 1) cap9) (n1 + 1) (.slice s2 n2 c2) n2 (.slice s3 n3 c3) n3) := hc9
          replace H4 : Hid (Blk v0_13 g4 [.int .i64 0, .slice none 0 0, .slice none 0 0, .slice none 0 0]) := H4.out.belowB b9 (by omega)
          replace H5 : Hid (Blk v0_13 g5 [.int .i64 mo, .slice s1 n1 c1, .slice s2 n2 c2, .slice s3 n3 c3]) := H5.out.belowB b9 (by omega)
          replace HR : Hid (∃ q, Rd v0_13 r s n c q) := by obtain ⟨q_, R_⟩ := HR.out; exact ⟨q_, Rd.below' R_ (b9.mono (by omega))⟩
          replace HS : Hid (Beside r w v0_13) := HS.out.onB (b9.mono (by omega))
          replace zB : B ≤ v0_13.heap.size := Nat.le_trans zB b9.size
          clear hc9 b9 HLB
          go_simp
          refine hK.out _ _ (trivial) (fun hHeld => ?_)
          clear hK KK
          refine wpAnyH_take (i := 6) (v := .pointer (some ⟨g5, 1, none⟩)) rfl (by kernel_rfl) (by kernel_rfl) (by kernel_rfl) (fun _ _ _ h => h) (Or.inl ⟨by kernel_rfl, ?_⟩) hHeld ?_
          · intro w' hSw
            first | (go_simp; done) | (go_simp; with_reducible rfl) | (go_simp; rw [IntKind.wrap_i64]; omega) | (go_simp; omega)
          simp only [Act.put, List.setIfInBounds_toArray, List.set_cons_zero, List.set_cons_succ]
          refine wpAnyH_ready (rs := [7]) (by kernel_rfl) (by simp) ?_
          refine (AllReadyH.cons rfl (fun KK hK => ?_) AllReadyH.nil)
          have u0 := H5.out.2.2 1 _ rfl
          have f0 := H5.out.2.1 1
          have uz := H5.out.1
          have hst := store_slT
          go_simp
          obtain ⟨v0_14, hv_⟩ : ∃ z, z = v0_13.setCell ⟨g5, 1, none⟩ (.slice (some ⟨g9, 0, none⟩) (n1 + 1) cap9) := ⟨_, rfl⟩
          rw [← hv_]
          have b9 : Beside g5 v0_13 v0_14 := by rw [hv_]; exact Beside.setCell g5 _ 1 _
          replace H5 : Hid (Blk v0_14 g5 [.int .i64 mo, .slice (some ⟨g9, 0, none⟩) (n1 + 1) cap9, .slice s2 n2 c2, .slice s3 n3 c3]) := by show Blk _ _ _; rw [hv_]; exact H5.out.set 1 _
          replace H4 : Hid (Blk v0_14 g4 [.int .i64 0, .slice none 0 0, .slice none 0 0, .slice none 0 0]) := H4.out.beside b9 (by omega)
          replace HC : Hid (Sc3 B v0_14 (.slice (some ⟨g9, 0, none⟩) (n1 + 1) cap9) (n1 + 1) (.slice s2 n2 c2) n2 (.slice s3 n3 c3) n3) := HC.out.beside b9 (by omega)
          replace HR : Hid (∃ q, Rd v0_14 r s n c q) := by obtain ⟨q_, R_⟩ := HR.out; have zr_ := R_.1; exact ⟨q_, Rd.below' R_ (b9.below (by omega) (by omega))⟩
          replace HS : Hid (Beside r w v0_14) := HS.out.onB (b9.below (by omega) HS.out.2.2.2.1)
          replace zB : B ≤ v0_14.heap.size := Nat.le_trans zB b9.2.2.2.1
          clear hv_ b9 u0 f0 uz hst
          refine hK.out _ _ (trivial) (fun hHeld => ?_)
          clear hK KK
          refine wpAnyH_done (by kernel_rfl) ?_ _
          clear hHeld
          go_wp2_with fail
          go_roundw
          case rel => exact ⟨i + 1, mo, some ⟨g9, 0, none⟩, n1 + 1, cap9, s2, n2, c2, s3, n3, c3, by go_num, by omega, by omega, hn2, hn3, HR, HS, H4, H5, HC, zB⟩
          case measure => first | (simp [intOf]; done) | (simp [intOf]; omega)
    case neg =>
      obtain rfl : N = i := by omega
      have hki : ¬ (N : Int) < (N : Int) := by omega
      clear hk hi
      have hN0i : (0 : Int) < (N : Int) := by omega
      obtain ⟨q0, R0⟩ := HR.out
      go_wp2_with fail
      refine (below_any 3 R0).mono ?_
      rintro e w3 ⟨kk, p9, rfl, k0_, k6_, km_, R9, b9⟩
      replace H4 : Hid (Blk w3 g4 [.int .i64 0, .slice none 0 0, .slice none 0 0, .slice none 0 0]) := H4.out.beside b9 (by omega)
      replace H5 : Hid (Blk w3 g5 [.int .i64 mo, .slice s1 n1 c1, .slice s2 n2 c2, .slice s3 n3 c3]) := H5.out.beside b9 (by omega)
      replace HC : Hid (Sc3 B w3 (.slice s1 n1 c1) n1 (.slice s2 n2 c2) n2 (.slice s3 n3 c3) n3) := HC.out.beside b9 (by omega)
      replace HS : Hid (Beside r w w3) := HS.out.trans b9
      replace zB : B ≤ w3.heap.size := Nat.le_trans zB b9.2.2.2.1
      replace HR : Hid (∃ q, Rd w3 r s n c q) := ⟨_, R9⟩
      clear R0 R9 b9
      obtain ⟨k9, rfl⟩ : ∃ k : Nat, kk = (k : Int) := ⟨kk.toNat, by omega⟩
      have k93 : k9 ≤ 2 := by omega
      clear k0_ k6_ km_ hki
      go_wp2_with fail
      go_loopw [7] (fun v wx => ∃ (k : Nat) (mo : Int) (s1 : Option Addr) (n1 c1 : Nat) (s2 : Option Addr) (n2 c2 : Nat) (s3 : Option Addr) (n3 c3 : Nat), v = .int .i64 (k : Int) ∧ n1 ≤ N ∧ n2 + k ≤ 2 ∧ n3 = 0 ∧ Hid (∃ q, Rd wx r s n c q) ∧ Hid (Beside r w wx) ∧ Hid (Blk wx g4 [.int .i64 0, .slice none 0 0, .slice none 0 0, .slice none 0 0]) ∧ Hid (Blk wx g5 [.int .i64 mo, .slice s1 n1 c1, .slice s2 n2 c2, .slice s3 n3 c3]) ∧ Hid (Sc3 B wx (.slice s1 n1 c1) n1 (.slice s2 n2 c2) n2 (.slice s3 n3 c3) n3) ∧ B ≤ wx.heap.size) (fun v _ => (intOf v).toNat)
      case atStart => exact ⟨k9, mo, s1, n1, c1, s2, n2, c2, s3, n3, c3, rfl, hn1, by omega, hn3, HR, HS, H4, H5, HC, zB⟩
      case round =>
        clear HR HS H4 H5 HC zB hn1 hn2 hn3
        obtain ⟨k, mo, s1, n1, c1, s2, n2, c2, s3, n3, c3, rfl, hn1, hn2, hn3, HR, HS, H4, H5, HC, zB⟩ := hrel
        rename World => wr
        by_cases hk : 0 < k
        case pos =>
          have hki : (0 : Int) < (k : Int) := by omega
          have HNi : Hid (Int.ofNat N = (N : Int)) := rfl
          go_upto_region 9 with fail
          refine wp_region_held_drew (S := fun w' => True) (by kernel_rfl) ?_ (fun hHeld => ?_)
          · trivial
          obtain ⟨v0, hv0⟩ : ∃ z, z = wr.drew := ⟨_, rfl⟩
          try rw [← hv0] at hHeld
          rw [← hv0]
          have bv0 : Below wr.heap.size wr v0 := by rw [hv0]; exact Below.drew (Below.refl _ _)
          clear hv0
          replace H4 : Hid (Blk v0 g4 [.int .i64 0, .slice none 0 0, .slice none 0 0, .slice none 0 0]) := H4.out.below bv0
          replace H5 : Hid (Blk v0 g5 [.int .i64 mo, .slice s1 n1 c1, .slice s2 n2 c2, .slice s3 n3 c3]) := H5.out.below bv0
          replace HC : Hid (Sc3 B v0 (.slice s1 n1 c1) n1 (.slice s2 n2 c2) n2 (.slice s3 n3 c3) n3) := HC.out.below bv0
          replace HS : Hid (Beside r w v0) := HS.out.trans (Beside.of bv0)
          replace zB : B ≤ v0.heap.size := Nat.le_trans zB bv0.size
          replace HR : Hid (∃ q, Rd v0 r s n c q) := by obtain ⟨q_, R_⟩ := HR.out; exact ⟨q_, R_.below bv0⟩
          clear bv0
          refine wpAnyH_take (i := 0) (v := .pointer (some ⟨g5, 2, none⟩)) rfl (by kernel_rfl) (by kernel_rfl) (by kernel_rfl) (fun _ _ _ h => h) (Or.inl ⟨by kernel_rfl, ?_⟩) hHeld ?_
          · intro w' hSw
            first | (go_simp; done) | (go_simp; with_reducible rfl) | (go_simp; rw [IntKind.wrap_i64]; omega) | (go_simp; omega)
          simp only [Act.put, List.setIfInBounds_toArray, List.set_cons_zero, List.set_cons_succ]
          refine wpAnyH_take (i := 2) (v := .pointer (some ⟨r, 0, none⟩)) rfl (by kernel_rfl) (by kernel_rfl) (by kernel_rfl) (fun _ _ _ h => h) (Or.inl ⟨by kernel_rfl, ?_⟩) hHeld ?_
          · intro w' hSw
            first | (go_simp; done) | (go_simp; with_reducible rfl) | (go_simp; rw [IntKind.wrap_i64]; omega) | (go_simp; omega)
          simp only [Act.put, List.setIfInBounds_toArray, List.set_cons_zero, List.set_cons_succ]
          refine wpAnyH_take (i := 3) (v := .int .i64 (N : Int)) rfl (by kernel_rfl) (by kernel_rfl) (by kernel_rfl) (fun _ _ _ h => h) (Or.inl ⟨by kernel_rfl, ?_⟩) hHeld ?_
          · intro w' hSw
            first | (go_simp; done) | (go_simp; with_reducible rfl) | (go_simp; rw [IntKind.wrap_i64]; omega) | (go_simp; omega)
          simp only [Act.put, List.setIfInBounds_toArray, List.set_cons_zero, List.set_cons_succ]
          refine wpAnyH_ready (rs := [1, 4]) (by kernel_rfl) (by simp) ?_
          refine (AllReadyH.cons rfl (fun KK hK => ?_) (AllReadyH.cons rfl (fun KK hK => ?_) AllReadyH.nil))
          · have c_ := H5.out.2.2 2 _ rfl
            have z_ := H5.out.1
            go_simp
            clear c_ z_
            refine hK.out _ _ (trivial) (fun hHeld => ?_)
            clear hK KK
            refine wpAnyH_ready (rs := [4]) (by kernel_rfl) (by simp) ?_
            refine (AllReadyH.cons rfl (fun KK hK => ?_) AllReadyH.nil)
            obtain ⟨q0, R0⟩ := HR.out
            go_simp
            go_wp2_with (first | (go_at_call 46; refine (below_any _ R0).mono ?_; rintro e v0_2 ⟨x9, p9, rfl, k0_, k6_, km_, R9, b9⟩))
            replace H4 : Hid (Blk v0_2 g4 [.int .i64 0, .slice none 0 0, .slice none 0 0, .slice none 0 0]) := H4.out.beside b9 (by omega)
            replace H5 : Hid (Blk v0_2 g5 [.int .i64 mo, .slice s1 n1 c1, .slice s2 n2 c2, .slice s3 n3 c3]) := H5.out.beside b9 (by omega)
            replace HC : Hid (Sc3 B v0_2 (.slice s1 n1 c1) n1 (.slice s2 n2 c2) n2 (.slice s3 n3 c3) n3) := HC.out.beside b9 (by omega)
            replace HS : Hid (Beside r w v0_2) := HS.out.trans b9
            replace zB : B ≤ v0_2.heap.size := Nat.le_trans zB b9.2.2.2.1
            replace HR : Hid (∃ q, Rd v0_2 r s n c q) := ⟨_, R9⟩
            clear R0 R9 b9 k0_ k6_ km_
            refine hK.out _ _ (trivial) (fun hHeld => ?_)
            clear hK KK
            refine wpAnyH_ready (rs := [5]) (by kernel_rfl) (by simp) ?_
            refine (AllReadyH.cons rfl (fun KK hK => ?_) AllReadyH.nil)
            go_simp
            obtain ⟨v0_3, hv_⟩ : ∃ z, z = v0_2.alloc (.cells #[.int .i64 x9] 2) := ⟨_, rfl⟩
            rw [← hv_]
            obtain ⟨lb, hlb⟩ : ∃ z, z = v0_2.heap.size := ⟨_, rfl⟩
            have b_ : Below v0_2.heap.size v0_2 v0_3 := by rw [hv_]; exact below0 _ _
            have HLB : Hid (Blk v0_3 lb [.int .i64 x9]) := by show Blk _ _ _; rw [hv_, hlb]; exact Blk.new v0_2 #[.int .i64 x9] _
            replace H4 : Hid (Blk v0_3 g4 [.int .i64 0, .slice none 0 0, .slice none 0 0, .slice none 0 0]) := H4.out.below b_
            replace H5 : Hid (Blk v0_3 g5 [.int .i64 mo, .slice s1 n1 c1, .slice s2 n2 c2, .slice s3 n3 c3]) := H5.out.below b_
            replace HC : Hid (Sc3 B v0_3 (.slice s1 n1 c1) n1 (.slice s2 n2 c2) n2 (.slice s3 n3 c3) n3) := HC.out.below b_
            replace HS : Hid (Beside r w v0_3) := HS.out.trans (Beside.of b_)
            replace zB : B ≤ v0_3.heap.size := Nat.le_trans zB b_.size
            replace HR : Hid (∃ q, Rd v0_3 r s n c q) := by obtain ⟨q_, R_⟩ := HR.out; exact ⟨q_, R_.below b_⟩
            try rw [← hlb]
            clear hv_ hlb b_
            refine hK.out _ _ (trivial) (fun hHeld => ?_)
            clear hK KK
            refine wpAnyH_ready (rs := [6]) (by kernel_rfl) (by simp) ?_
            refine (AllReadyH.cons rfl (fun KK hK => ?_) AllReadyH.nil)
            refine wp_sc2 HC.out (.tmp 34) (.tmp 38) (by rfl) (by rfl) lb (by rfl) (HLB.out.2.2 0 _ rfl) (by omega) zB ?_
            intro g9 cap9 v0_4 hc9 b9
            replace HC : Hid (Sc3 B v0_4 (.slice s1 n1 c1) n1 (.slice (some ⟨g9, 0, none⟩) (n2 + 1) cap9) (n2 + 1) (.slice s3 n3 c3) n3) := hc9
            replace H4 : Hid (Blk v0_4 g4 [.int .i64 0, .slice none 0 0, .slice none 0 0, .slice none 0 0]) := H4.out.belowB b9 (by omega)
            replace H5 : Hid (Blk v0_4 g5 [.int .i64 mo, .slice s1 n1 c1, .slice s2 n2 c2, .slice s3 n3 c3]) := H5.out.belowB b9 (by omega)
            replace HR : Hid (∃ q, Rd v0_4 r s n c q) := by obtain ⟨q_, R_⟩ := HR.out; exact ⟨q_, Rd.below' R_ (b9.mono (by omega))⟩
            replace HS : Hid (Beside r w v0_4) := HS.out.onB (b9.mono (by omega))
            replace zB : B ≤ v0_4.heap.size := Nat.le_trans zB b9.size
            clear hc9 b9 HLB
            go_simp
            refine hK.out _ _ (trivial) (fun hHeld => ?_)
            clear hK KK
            refine wpAnyH_take (i := 7) (v := .pointer (some ⟨g5, 2, none⟩)) rfl (by kernel_rfl) (by kernel_rfl) (by kernel_rfl) (fun _ _ _ h => h) (Or.inl ⟨by kernel_rfl, ?_⟩) hHeld ?_
            · intro w' hSw
              first | (go_simp; done) | (go_simp; with_reducible rfl) | (go_simp; rw [IntKind.wrap_i64]; omega) | (go_simp; omega)
            simp only [Act.put, List.setIfInBounds_toArray, List.set_cons_zero, List.set_cons_succ]
            refine wpAnyH_ready (rs := [8]) (by kernel_rfl) (by simp) ?_
            refine (AllReadyH.cons rfl (fun KK hK => ?_) AllReadyH.nil)
            have u0 := H5.out.2.2 2 _ rfl
            have f0 := H5.out.2.1 2
            have uz := H5.out.1
            have hst := store_slT
            go_simp
            obtain ⟨v0_5, hv_⟩ : ∃ z, z = v0_4.setCell ⟨g5, 2, none⟩ (.slice (some ⟨g9, 0, none⟩) (n2 + 1) cap9) := ⟨_, rfl⟩
            rw [← hv_]
            have b9 : Beside g5 v0_4 v0_5 := by rw [hv_]; exact Beside.setCell g5 _ 2 _
            replace H5 : Hid (Blk v0_5 g5 [.int .i64 mo, .slice s1 n1 c1, .slice (some ⟨g9, 0, none⟩) (n2 + 1) cap9, .slice s3 n3 c3]) := by show Blk _ _ _; rw [hv_]; exact H5.out.set 2 _
            replace H4 : Hid (Blk v0_5 g4 [.int .i64 0, .slice none 0 0, .slice none 0 0, .slice none 0 0]) := H4.out.beside b9 (by omega)
            replace HC : Hid (Sc3 B v0_5 (.slice s1 n1 c1) n1 (.slice (some ⟨g9, 0, none⟩) (n2 + 1) cap9) (n2 + 1) (.slice s3 n3 c3) n3) := HC.out.beside b9 (by omega)
            replace HR : Hid (∃ q, Rd v0_5 r s n c q) := by obtain ⟨q_, R_⟩ := HR.out; have zr_ := R_.1; exact ⟨q_, Rd.below' R_ (b9.below (by omega) (by omega))⟩
            replace HS : Hid (Beside r w v0_5) := HS.out.onB (b9.below (by omega) HS.out.2.2.2.1)
            replace zB : B ≤ v0_5.heap.size := Nat.le_trans zB b9.2.2.2.1
            clear hv_ b9 u0 f0 uz hst
            refine hK.out _ _ (trivial) (fun hHeld => ?_)
            clear hK KK
            refine wpAnyH_done (by kernel_rfl) ?_ _
            clear hHeld
            go_wp2_with fail
            go_roundw
            case rel => exact ⟨k - 1, mo, s1, n1, c1, some ⟨g9, 0, none⟩, n2 + 1, cap9, s3, n3, c3, by go_num, hn1, by omega, hn3, HR, HS, H4, H5, HC, zB⟩
            case measure => simp [intOf]; omega
          · obtain ⟨q0, R0⟩ := HR.out
            go_simp
            go_wp2_with (first | (go_at_call 46; refine (below_any _ R0).mono ?_; rintro e v0_6 ⟨x9, p9, rfl, k0_, k6_, km_, R9, b9⟩))
            replace H4 : Hid (Blk v0_6 g4 [.int .i64 0, .slice none 0 0, .slice none 0 0, .slice none 0 0]) := H4.out.beside b9 (by omega)
            replace H5 : Hid (Blk v0_6 g5 [.int .i64 mo, .slice s1 n1 c1, .slice s2 n2 c2, .slice s3 n3 c3]) := H5.out.beside b9 (by omega)
            replace HC : Hid (Sc3 B v0_6 (.slice s1 n1 c1) n1 (.slice s2 n2 c2) n2 (.slice s3 n3 c3) n3) := HC.out.beside b9 (by omega)
            replace HS : Hid (Beside r w v0_6) := HS.out.trans b9
            replace zB : B ≤ v0_6.heap.size := Nat.le_trans zB b9.2.2.2.1
            replace HR : Hid (∃ q, Rd v0_6 r s n c q) := ⟨_, R9⟩
            clear R0 R9 b9 k0_ k6_ km_
            refine hK.out _ _ (trivial) (fun hHeld => ?_)
            clear hK KK
            refine wpAnyH_ready (rs := [1, 5]) (by kernel_rfl) (by simp) ?_
            refine (AllReadyH.cons rfl (fun KK hK => ?_) (AllReadyH.cons rfl (fun KK hK => ?_) AllReadyH.nil))
            · have c_ := H5.out.2.2 2 _ rfl
              have z_ := H5.out.1
              go_simp
              clear c_ z_
              refine hK.out _ _ (trivial) (fun hHeld => ?_)
              clear hK KK
              refine wpAnyH_ready (rs := [5]) (by kernel_rfl) (by simp) ?_
              refine (AllReadyH.cons rfl (fun KK hK => ?_) AllReadyH.nil)
              go_simp
              obtain ⟨v0_8, hv_⟩ : ∃ z, z = v0_6.alloc (.cells #[.int .i64 x9] 2) := ⟨_, rfl⟩
              rw [← hv_]
              obtain ⟨lb, hlb⟩ : ∃ z, z = v0_6.heap.size := ⟨_, rfl⟩
              have b_ : Below v0_6.heap.size v0_6 v0_8 := by rw [hv_]; exact below0 _ _
              have HLB : Hid (Blk v0_8 lb [.int .i64 x9]) := by show Blk _ _ _; rw [hv_, hlb]; exact Blk.new v0_6 #[.int .i64 x9] _
              replace H4 : Hid (Blk v0_8 g4 [.int .i64 0, .slice none 0 0, .slice none 0 0, .slice none 0 0]) := H4.out.below b_
              replace H5 : Hid (Blk v0_8 g5 [.int .i64 mo, .slice s1 n1 c1, .slice s2 n2 c2, .slice s3 n3 c3]) := H5.out.below b_
              replace HC : Hid (Sc3 B v0_8 (.slice s1 n1 c1) n1 (.slice s2 n2 c2) n2 (.slice s3 n3 c3) n3) := HC.out.below b_
              replace HS : Hid (Beside r w v0_8) := HS.out.trans (Beside.of b_)
              replace zB : B ≤ v0_8.heap.size := Nat.le_trans zB b_.size
              replace HR : Hid (∃ q, Rd v0_8 r s n c q) := by obtain ⟨q_, R_⟩ := HR.out; exact ⟨q_, R_.below b_⟩
              try rw [← hlb]
              clear hv_ hlb b_
              refine hK.out _ _ (trivial) (fun hHeld => ?_)
              clear hK KK
              refine wpAnyH_ready (rs := [6]) (by kernel_rfl) (by simp) ?_
              refine (AllReadyH.cons rfl (fun KK hK => ?_) AllReadyH.nil)
              refine wp_sc2 HC.out (.tmp 34) (.tmp 38) (by rfl) (by rfl) lb (by rfl) (HLB.out.2.2 0 _ rfl) (by omega) zB ?_
              intro g9 cap9 v0_9 hc9 b9
              replace HC : Hid (Sc3 B v0_9 (.slice s1 n1 c1) n1 (.slice (some ⟨g9, 0, none⟩) (n2 + 1) cap9) (n2 + 1) (.slice s3 n3 c3) n3) := hc9
              replace H4 : Hid (Blk v0_9 g4 [.int .i64 0, .slice none 0 0, .slice none 0 0, .slice none 0 0]) := H4.out.belowB b9 (by omega)
              replace H5 : Hid (Blk v0_9 g5 [.int .i64 mo, .slice s1 n1 c1, .slice s2 n2 c2, .slice s3 n3 c3]) := H5.out.belowB b9 (by omega)
              replace HR : Hid (∃ q, Rd v0_9 r s n c q) := by obtain ⟨q_, R_⟩ := HR.out; exact ⟨q_, Rd.below' R_ (b9.mono (by omega))⟩
              replace HS : Hid (Beside r w v0_9) := HS.out.onB (b9.mono (by omega))
              replace zB : B ≤ v0_9.heap.size := Nat.le_trans zB b9.size
              clear hc9 b9 HLB
              go_simp
              refine hK.out _ _ (trivial) (fun hHeld => ?_)
              clear hK KK
              refine wpAnyH_take (i := 7) (v := .pointer (some ⟨g5, 2, none⟩)) rfl (by kernel_rfl) (by kernel_rfl) (by kernel_rfl) (fun _ _ _ h => h) (Or.inl ⟨by kernel_rfl, ?_⟩) hHeld ?_
              · intro w' hSw
                first | (go_simp; done) | (go_simp; with_reducible rfl) | (go_simp; rw [IntKind.wrap_i64]; omega) | (go_simp; omega)
              simp only [Act.put, List.setIfInBounds_toArray, List.set_cons_zero, List.set_cons_succ]
              refine wpAnyH_ready (rs := [8]) (by kernel_rfl) (by simp) ?_
              refine (AllReadyH.cons rfl (fun KK hK => ?_) AllReadyH.nil)
              have u0 := H5.out.2.2 2 _ rfl
              have f0 := H5.out.2.1 2
              have uz := H5.out.1
              have hst := store_slT
              go_simp
              obtain ⟨v0_10, hv_⟩ : ∃ z, z = v0_9.setCell ⟨g5, 2, none⟩ (.slice (some ⟨g9, 0, none⟩) (n2 + 1) cap9) := ⟨_, rfl⟩
              rw [← hv_]
              have b9 : Beside g5 v0_9 v0_10 := by rw [hv_]; exact Beside.setCell g5 _ 2 _
              replace H5 : Hid (Blk v0_10 g5 [.int .i64 mo, .slice s1 n1 c1, .slice (some ⟨g9, 0, none⟩) (n2 + 1) cap9, .slice s3 n3 c3]) := by show Blk _ _ _; rw [hv_]; exact H5.out.set 2 _
              replace H4 : Hid (Blk v0_10 g4 [.int .i64 0, .slice none 0 0, .slice none 0 0, .slice none 0 0]) := H4.out.beside b9 (by omega)
              replace HC : Hid (Sc3 B v0_10 (.slice s1 n1 c1) n1 (.slice (some ⟨g9, 0, none⟩) (n2 + 1) cap9) (n2 + 1) (.slice s3 n3 c3) n3) := HC.out.beside b9 (by omega)
              replace HR : Hid (∃ q, Rd v0_10 r s n c q) := by obtain ⟨q_, R_⟩ := HR.out; have zr_ := R_.1; exact ⟨q_, Rd.below' R_ (b9.below (by omega) (by omega))⟩
              replace HS : Hid (Beside r w v0_10) := HS.out.onB (b9.below (by omega) HS.out.2.2.2.1)
              replace zB : B ≤ v0_10.heap.size := Nat.le_trans zB b9.2.2.2.1
              clear hv_ b9 u0 f0 uz hst
              refine hK.out _ _ (trivial) (fun hHeld => ?_)
              clear hK KK
              refine wpAnyH_done (by kernel_rfl) ?_ _
              clear hHeld
              go_wp2_with fail
              go_roundw
              case rel => exact ⟨k - 1, mo, s1, n1, c1, some ⟨g9, 0, none⟩, n2 + 1, cap9, s3, n3, c3, by go_num, hn1, by omega, hn3, HR, HS, H4, H5, HC, zB⟩
              case measure => simp [intOf]; omega
            · go_simp
              obtain ⟨v0_11, hv_⟩ : ∃ z, z = v0_6.alloc (.cells #[.int .i64 x9] 2) := ⟨_, rfl⟩
              rw [← hv_]
              obtain ⟨lb, hlb⟩ : ∃ z, z = v0_6.heap.size := ⟨_, rfl⟩
              have b_ : Below v0_6.heap.size v0_6 v0_11 := by rw [hv_]; exact below0 _ _
              have HLB : Hid (Blk v0_11 lb [.int .i64 x9]) := by show Blk _ _ _; rw [hv_, hlb]; exact Blk.new v0_6 #[.int .i64 x9] _
              replace H4 : Hid (Blk v0_11 g4 [.int .i64 0, .slice none 0 0, .slice none 0 0, .slice none 0 0]) := H4.out.below b_
              replace H5 : Hid (Blk v0_11 g5 [.int .i64 mo, .slice s1 n1 c1, .slice s2 n2 c2, .slice s3 n3 c3]) := H5.out.below b_
              replace HC : Hid (Sc3 B v0_11 (.slice s1 n1 c1) n1 (.slice s2 n2 c2) n2 (.slice s3 n3 c3) n3) := HC.out.below b_
              replace HS : Hid (Beside r w v0_11) := HS.out.trans (Beside.of b_)
              replace zB : B ≤ v0_11.heap.size := Nat.le_trans zB b_.size
              replace HR : Hid (∃ q, Rd v0_11 r s n c q) := by obtain ⟨q_, R_⟩ := HR.out; exact ⟨q_, R_.below b_⟩
              try rw [← hlb]
              clear hv_ hlb b_
              refine hK.out _ _ (trivial) (fun hHeld => ?_)
              clear hK KK
              refine wpAnyH_ready (rs := [1]) (by kernel_rfl) (by simp) ?_
              refine (AllReadyH.cons rfl (fun KK hK => ?_) AllReadyH.nil)
              have c_ := H5.out.2.2 2 _ rfl
              have z_ := H5.out.1
              go_simp
              clear c_ z_
              refine hK.out _ _ (trivial) (fun hHeld => ?_)
              clear hK KK
              refine wpAnyH_ready (rs := [6]) (by kernel_rfl) (by simp) ?_
              refine (AllReadyH.cons rfl (fun KK hK => ?_) AllReadyH.nil)
              refine wp_sc2 HC.out (.tmp 34) (.tmp 38) (by rfl) (by rfl) lb (by rfl) (HLB.out.2.2 0 _ rfl) (by omega) zB ?_
              intro g9 cap9 v0_13 hc9 b9
              replace HC : Hid (Sc3 B v0_13 (.slice s1 n1 c1) n1 (.slice (some ⟨g9, 0, none⟩) (n2 + 1) cap9) (n2 + 1) (.slice s3 n3 c3) n3) := hc9
              replace H4 : Hid (Blk v0_13 g4 [.int .i64 0, .slice none 0 0, .slice none 0 0, .slice none 0 0]) := H4.out.belowB b9 (by omega)
              replace H5 : Hid (Blk v0_13 g5 [.int .i64 mo, .slice s1 n1 c1, .slice s2 n2 c2, .slice s3 n3 c3]) := H5.out.belowB b9 (by omega)
              replace HR : Hid (∃ q, Rd v0_13 r s n c q) := by obtain ⟨q_, R_⟩ := HR.out; exact ⟨q_, Rd.below' R_ (b9.mono (by omega))⟩
              replace HS : Hid (Beside r w v0_13) := HS.out.onB (b9.mono (by omega))
              replace zB : B ≤ v0_13.heap.size := Nat.le_trans zB b9.size
              clear hc9 b9 HLB
              go_simp
              refine hK.out _ _ (trivial) (fun hHeld => ?_)
              clear hK KK
              refine wpAnyH_take (i := 7) (v := .pointer (some ⟨g5, 2, none⟩)) rfl (by kernel_rfl) (by kernel_rfl) (by kernel_rfl) (fun _ _ _ h => h) (Or.inl ⟨by kernel_rfl, ?_⟩) hHeld ?_
              · intro w' hSw
                first | (go_simp; done) | (go_simp; with_reducible rfl) | (go_simp; rw [IntKind.wrap_i64]; omega) | (go_simp; omega)
              simp only [Act.put, List.setIfInBounds_toArray, List.set_cons_zero, List.set_cons_succ]
              refine wpAnyH_ready (rs := [8]) (by kernel_rfl) (by simp) ?_
              refine (AllReadyH.cons rfl (fun KK hK => ?_) AllReadyH.nil)
              have u0 := H5.out.2.2 2 _ rfl
              have f0 := H5.out.2.1 2
              have uz := H5.out.1
              have hst := store_slT
              go_simp
              obtain ⟨v0_14, hv_⟩ : ∃ z, z = v0_13.setCell ⟨g5, 2, none⟩ (.slice (some ⟨g9, 0, none⟩) (n2 + 1) cap9) := ⟨_, rfl⟩
              rw [← hv_]
              have b9 : Beside g5 v0_13 v0_14 := by rw [hv_]; exact Beside.setCell g5 _ 2 _
              replace H5 : Hid (Blk v0_14 g5 [.int .i64 mo, .slice s1 n1 c1, .slice (some ⟨g9, 0, none⟩) (n2 + 1) cap9, .slice s3 n3 c3]) := by show Blk _ _ _; rw [hv_]; exact H5.out.set 2 _
              replace H4 : Hid (Blk v0_14 g4 [.int .i64 0, .slice none 0 0, .slice none 0 0, .slice none 0 0]) := H4.out.beside b9 (by omega)
              replace HC : Hid (Sc3 B v0_14 (.slice s1 n1 c1) n1 (.slice (some ⟨g9, 0, none⟩) (n2 + 1) cap9) (n2 + 1) (.slice s3 n3 c3) n3) := HC.out.beside b9 (by omega)
              replace HR : Hid (∃ q, Rd v0_14 r s n c q) := by obtain ⟨q_, R_⟩ := HR.out; have zr_ := R_.1; exact ⟨q_, Rd.below' R_ (b9.below (by omega) (by omega))⟩
              replace HS : Hid (Beside r w v0_14) := HS.out.onB (b9.below (by omega) HS.out.2.2.2.1)
              replace zB : B ≤ v0_14.heap.size := Nat.le_trans zB b9.2.2.2.1
              clear hv_ b9 u0 f0 uz hst
              refine hK.out _ _ (trivial) (fun hHeld => ?_)
              clear hK KK
              refine wpAnyH_done (by kernel_rfl) ?_ _
              clear hHeld
              go_wp2_with fail
              go_roundw
              case rel => exact ⟨k - 1, mo, s1, n1, c1, some ⟨g9, 0, none⟩, n2 + 1, cap9, s3, n3, c3, by go_num, hn1, by omega, hn3, HR, HS, H4, H5, HC, zB⟩
              case measure => simp [intOf]; omega
        case neg =>
          obtain rfl : k = 0 := by omega
          clear hk
          replace hn3 : n3 ≤ 0 := by omega
          go_upto_region 10 with fail
          go_cut [46] (fun v wx => ∃ C : Bool, v = .bool C ∧ Hid (∃ q, Rd wx r s n c q) ∧ Hid (Beside r w wx) ∧ Hid (Blk wx g4 [.int .i64 0, .slice none 0 0, .slice none 0 0, .slice none 0 0]) ∧ Hid (Blk wx g5 [.int .i64 mo, .slice s1 n1 c1, .slice s2 n2 c2, .slice s3 n3 c3]) ∧ Hid (Sc3 B wx (.slice s1 n1 c1) n1 (.slice s2 n2 c2) n2 (.slice s3 n3 c3) n3) ∧ B ≤ wx.heap.size)
          case first =>
            obtain ⟨q0, R0⟩ := HR.out
            go_wp2_with fail
            refine (once_any 6 (by omega) (by omega) R0).mono ?_
            rintro e w5 ⟨bo, p9, rfl, R9, b9⟩
            replace H4 : Hid (Blk w5 g4 [.int .i64 0, .slice none 0 0, .slice none 0 0, .slice none 0 0]) := H4.out.beside b9 (by omega)
            replace H5 : Hid (Blk w5 g5 [.int .i64 mo, .slice s1 n1 c1, .slice s2 n2 c2, .slice s3 n3 c3]) := H5.out.beside b9 (by omega)
            replace HC : Hid (Sc3 B w5 (.slice s1 n1 c1) n1 (.slice s2 n2 c2) n2 (.slice s3 n3 c3) n3) := HC.out.beside b9 (by omega)
            replace HS : Hid (Beside r w w5) := HS.out.trans b9
            replace zB : B ≤ w5.heap.size := Nat.le_trans zB b9.2.2.2.1
            replace HR : Hid (∃ q, Rd w5 r s n c q) := ⟨_, R9⟩
            clear R0 R9 b9
            cases bo
            case false =>
              go_wp2_with fail
              go_meet
              exact ⟨false, rfl, HR, HS, H4, H5, HC, zB⟩
            case true =>
              go_wp2_with fail
              go_meet
              exact ⟨true, rfl, HR, HS, H4, H5, HC, zB⟩
          clear HR HS H4 H5 HC zB
          obtain ⟨C, rfl, HR, HS, H4, H5, HC, zB⟩ := hcut
          rename World => w6
          go_upto_if 46 with fail
          go_cut [] (fun wx => ∃ (s3 : Option Addr) (n3 c3 : Nat), n3 ≤ 1 ∧ Hid (∃ q, Rd wx r s n c q) ∧ Hid (Beside r w wx) ∧ Hid (Blk wx g4 [.int .i64 0, .slice none 0 0, .slice none 0 0, .slice none 0 0]) ∧ Hid (Blk wx g5 [.int .i64 mo, .slice s1 n1 c1, .slice s2 n2 c2, .slice s3 n3 c3]) ∧ Hid (Sc3 B wx (.slice s1 n1 c1) n1 (.slice s2 n2 c2) n2 (.slice s3 n3 c3) n3) ∧ B ≤ wx.heap.size)
          case first =>
            cases C
            case false =>
              go_wp2_with fail
              go_meet
              exact ⟨s3, n3, c3, by omega, HR, HS, H4, H5, HC, zB⟩
            case true =>
              go_upto_region 11 with fail
              refine wp_region_held_drew (S := fun w' => True) (by kernel_rfl) ?_ (fun hHeld => ?_)
              · trivial
              obtain ⟨v0, hv0⟩ : ∃ z, z = w6.drew := ⟨_, rfl⟩
              try rw [← hv0] at hHeld
              rw [← hv0]
              have bv0 : Below w6.heap.size w6 v0 := by rw [hv0]; exact Below.drew (Below.refl _ _)
              clear hv0
              replace H4 : Hid (Blk v0 g4 [.int .i64 0, .slice none 0 0, .slice none 0 0, .slice none 0 0]) := H4.out.below bv0
              replace H5 : Hid (Blk v0 g5 [.int .i64 mo, .slice s1 n1 c1, .slice s2 n2 c2, .slice s3 n3 c3]) := H5.out.below bv0
              replace HC : Hid (Sc3 B v0 (.slice s1 n1 c1) n1 (.slice s2 n2 c2) n2 (.slice s3 n3 c3) n3) := HC.out.below bv0
              replace HS : Hid (Beside r w v0) := HS.out.trans (Beside.of bv0)
              replace zB : B ≤ v0.heap.size := Nat.le_trans zB bv0.size
              replace HR : Hid (∃ q, Rd v0 r s n c q) := by obtain ⟨q_, R_⟩ := HR.out; exact ⟨q_, R_.below bv0⟩
              clear bv0
              refine wpAnyH_take (i := 0) (v := .pointer (some ⟨g5, 3, none⟩)) rfl (by kernel_rfl) (by kernel_rfl) (by kernel_rfl) (fun _ _ _ h => h) (Or.inl ⟨by kernel_rfl, ?_⟩) hHeld ?_
              · intro w' hSw
                first | (go_simp; done) | (go_simp; with_reducible rfl) | (go_simp; rw [IntKind.wrap_i64]; omega) | (go_simp; omega)
              simp only [Act.put, List.setIfInBounds_toArray, List.set_cons_zero, List.set_cons_succ]
              refine wpAnyH_take (i := 2) (v := .pointer (some ⟨r, 0, none⟩)) rfl (by kernel_rfl) (by kernel_rfl) (by kernel_rfl) (fun _ _ _ h => h) (Or.inl ⟨by kernel_rfl, ?_⟩) hHeld ?_
              · intro w' hSw
                first | (go_simp; done) | (go_simp; with_reducible rfl) | (go_simp; rw [IntKind.wrap_i64]; omega) | (go_simp; omega)
              simp only [Act.put, List.setIfInBounds_toArray, List.set_cons_zero, List.set_cons_succ]
              refine wpAnyH_take (i := 3) (v := .int .i64 (N : Int)) rfl (by kernel_rfl) (by kernel_rfl) (by kernel_rfl) (fun _ _ _ h => h) (Or.inl ⟨by kernel_rfl, ?_⟩) hHeld ?_
              · intro w' hSw
                first | (go_simp; done) | (go_simp; with_reducible rfl) | (go_simp; rw [IntKind.wrap_i64]; omega) | (go_simp; omega)
              simp only [Act.put, List.setIfInBounds_toArray, List.set_cons_zero, List.set_cons_succ]
              refine wpAnyH_take (i := 5) (v := .pointer (some ⟨r, 0, none⟩)) rfl (by kernel_rfl) (by kernel_rfl) (by kernel_rfl) (fun _ _ _ h => h) (Or.inl ⟨by kernel_rfl, ?_⟩) hHeld ?_
              · intro w' hSw
                first | (go_simp; done) | (go_simp; with_reducible rfl) | (go_simp; rw [IntKind.wrap_i64]; omega) | (go_simp; omega)
              simp only [Act.put, List.setIfInBounds_toArray, List.set_cons_zero, List.set_cons_succ]
              refine wpAnyH_ready (rs := [1, 4]) (by kernel_rfl) (by simp) ?_
              refine (AllReadyH.cons rfl (fun KK hK => ?_) (AllReadyH.cons rfl (fun KK hK => ?_) AllReadyH.nil))
              · have c_ := H5.out.2.2 3 _ rfl
                have z_ := H5.out.1
                go_simp
                clear c_ z_
                refine hK.out _ _ (trivial) (fun hHeld => ?_)
                clear hK KK
                refine wpAnyH_ready (rs := [4]) (by kernel_rfl) (by simp) ?_
                refine (AllReadyH.cons rfl (fun KK hK => ?_) AllReadyH.nil)
                obtain ⟨q0, R0⟩ := HR.out
                go_simp
                go_wp2_with (first | (go_at_call 46; refine (below_any _ R0).mono ?_; rintro e v0_2 ⟨x7, p9, rfl, k0_, k6_, km_, R9, b9⟩))
                replace H4 : Hid (Blk v0_2 g4 [.int .i64 0, .slice none 0 0, .slice none 0 0, .slice none 0 0]) := H4.out.beside b9 (by omega)
                replace H5 : Hid (Blk v0_2 g5 [.int .i64 mo, .slice s1 n1 c1, .slice s2 n2 c2, .slice s3 n3 c3]) := H5.out.beside b9 (by omega)
                replace HC : Hid (Sc3 B v0_2 (.slice s1 n1 c1) n1 (.slice s2 n2 c2) n2 (.slice s3 n3 c3) n3) := HC.out.beside b9 (by omega)
                replace HS : Hid (Beside r w v0_2) := HS.out.trans b9
                replace zB : B ≤ v0_2.heap.size := Nat.le_trans zB b9.2.2.2.1
                replace HR : Hid (∃ q, Rd v0_2 r s n c q) := ⟨_, R9⟩
                clear R0 R9 b9 k0_ k6_ km_
                refine hK.out _ _ (trivial) (fun hHeld => ?_)
                clear hK KK
                refine wpAnyH_ready (rs := [6]) (by kernel_rfl) (by simp) ?_
                refine (AllReadyH.cons rfl (fun KK hK => ?_) AllReadyH.nil)
                obtain ⟨q0, R0⟩ := HR.out
                go_simp
                go_wp2_with (first | (go_at_call 46; refine (below_any 5 R0).mono ?_; rintro e v0_3 ⟨x8, p9, rfl, y0_, y6_, ym_, R9, b9⟩))
                replace H4 : Hid (Blk v0_3 g4 [.int .i64 0, .slice none 0 0, .slice none 0 0, .slice none 0 0]) := H4.out.beside b9 (by omega)
                replace H5 : Hid (Blk v0_3 g5 [.int .i64 mo, .slice s1 n1 c1, .slice s2 n2 c2, .slice s3 n3 c3]) := H5.out.beside b9 (by omega)
                replace HC : Hid (Sc3 B v0_3 (.slice s1 n1 c1) n1 (.slice s2 n2 c2) n2 (.slice s3 n3 c3) n3) := HC.out.beside b9 (by omega)
                replace HS : Hid (Beside r w v0_3) := HS.out.trans b9
                replace zB : B ≤ v0_3.heap.size := Nat.le_trans zB b9.2.2.2.1
                replace HR : Hid (∃ q, Rd v0_3 r s n c q) := ⟨_, R9⟩
                clear R0 R9 b9
                refine hK.out _ _ (trivial) (fun hHeld => ?_)
                clear hK KK
                refine wpAnyH_take (i := 7) (v := .int .i64 (1 + x8)) rfl (by kernel_rfl) (by kernel_rfl) (by kernel_rfl) (fun _ _ _ h => h) (Or.inl ⟨by kernel_rfl, ?_⟩) hHeld ?_
                · intro w' hSw
                  first | (go_simp; done) | (go_simp; with_reducible rfl) | (go_simp; rw [IntKind.wrap_i64]; omega) | (go_simp; omega)
                simp only [Act.put, List.setIfInBounds_toArray, List.set_cons_zero, List.set_cons_succ]
                refine wpAnyH_take (i := 8) (v := .agg #[.int .i64 x7, .int .i64 (1 + x8)]) rfl (by kernel_rfl) (by kernel_rfl) (by kernel_rfl) (fun _ _ _ h => h) (Or.inl ⟨by kernel_rfl, ?_⟩) hHeld ?_
                · intro w' hSw
                  first | (go_simp; done) | (go_simp; with_reducible rfl) | (go_simp; rw [IntKind.wrap_i64]; omega) | (go_simp; omega)
                simp only [Act.put, List.setIfInBounds_toArray, List.set_cons_zero, List.set_cons_succ]
                refine wpAnyH_ready (rs := [9]) (by kernel_rfl) (by simp) ?_
                refine (AllReadyH.cons rfl (fun KK hK => ?_) AllReadyH.nil)
                go_simp
                obtain ⟨v0_4, hv_⟩ : ∃ z, z = v0_3.alloc (.cells #[.int .i64 x7, .int .i64 (1 + x8)] 94) := ⟨_, rfl⟩
                rw [← hv_]
                obtain ⟨lb, hlb⟩ : ∃ z, z = v0_3.heap.size := ⟨_, rfl⟩
                have b_ : Below v0_3.heap.size v0_3 v0_4 := by rw [hv_]; exact below0 _ _
                have HLB : Hid (Blk v0_4 lb [.int .i64 x7, .int .i64 (1 + x8)]) := by show Blk _ _ _; rw [hv_, hlb]; exact Blk.new v0_3 #[.int .i64 x7, .int .i64 (1 + x8)] _
                replace H4 : Hid (Blk v0_4 g4 [.int .i64 0, .slice none 0 0, .slice none 0 0, .slice none 0 0]) := H4.out.below b_
                replace H5 : Hid (Blk v0_4 g5 [.int .i64 mo, .slice s1 n1 c1, .slice s2 n2 c2, .slice s3 n3 c3]) := H5.out.below b_
                replace HC : Hid (Sc3 B v0_4 (.slice s1 n1 c1) n1 (.slice s2 n2 c2) n2 (.slice s3 n3 c3) n3) := HC.out.below b_
                replace HS : Hid (Beside r w v0_4) := HS.out.trans (Beside.of b_)
                replace zB : B ≤ v0_4.heap.size := Nat.le_trans zB b_.size
                replace HR : Hid (∃ q, Rd v0_4 r s n c q) := by obtain ⟨q_, R_⟩ := HR.out; exact ⟨q_, R_.below b_⟩
                try rw [← hlb]
                clear hv_ hlb b_
                refine hK.out _ _ (trivial) (fun hHeld => ?_)
                clear hK KK
                refine wpAnyH_ready (rs := [10]) (by kernel_rfl) (by simp) ?_
                refine (AllReadyH.cons rfl (fun KK hK => ?_) AllReadyH.nil)
                refine wp_sc3 HC.out (.tmp 48) (.tmp 56) (by rfl) (by rfl) lb (by rfl) (HLB.out.2.2 0 _ rfl) (HLB.out.2.2 1 _ rfl) (by omega) zB ?_
                intro g9 cap9 v0_5 hc9 b9
                replace HC : Hid (Sc3 B v0_5 (.slice s1 n1 c1) n1 (.slice s2 n2 c2) n2 (.slice (some ⟨g9, 0, none⟩) (n3 + 1) cap9) (n3 + 1)) := hc9
                replace H4 : Hid (Blk v0_5 g4 [.int .i64 0, .slice none 0 0, .slice none 0 0, .slice none 0 0]) := H4.out.belowB b9 (by omega)
                replace H5 : Hid (Blk v0_5 g5 [.int .i64 mo, .slice s1 n1 c1, .slice s2 n2 c2, .slice s3 n3 c3]) := H5.out.belowB b9 (by omega)
                replace HR : Hid (∃ q, Rd v0_5 r s n c q) := by obtain ⟨q_, R_⟩ := HR.out; exact ⟨q_, Rd.below' R_ (b9.mono (by omega))⟩
                replace HS : Hid (Beside r w v0_5) := HS.out.onB (b9.mono (by omega))
                replace zB : B ≤ v0_5.heap.size := Nat.le_trans zB b9.size
                clear hc9 b9 HLB
                go_simp
                refine hK.out _ _ (trivial) (fun hHeld => ?_)
                clear hK KK
                refine wpAnyH_take (i := 11) (v := .pointer (some ⟨g5, 3, none⟩)) rfl (by kernel_rfl) (by kernel_rfl) (by kernel_rfl) (fun _ _ _ h => h) (Or.inl ⟨by kernel_rfl, ?_⟩) hHeld ?_
                · intro w' hSw
                  first | (go_simp; done) | (go_simp; with_reducible rfl) | (go_simp; rw [IntKind.wrap_i64]; omega) | (go_simp; omega)
                simp only [Act.put, List.setIfInBounds_toArray, List.set_cons_zero, List.set_cons_succ]
                refine wpAnyH_ready (rs := [12]) (by kernel_rfl) (by simp) ?_
                refine (AllReadyH.cons rfl (fun KK hK => ?_) AllReadyH.nil)
                have u0 := H5.out.2.2 3 _ rfl
                have f0 := H5.out.2.1 3
                have uz := H5.out.1
                have hst := store_slT
                go_simp
                obtain ⟨v0_6, hv_⟩ : ∃ z, z = v0_5.setCell ⟨g5, 3, none⟩ (.slice (some ⟨g9, 0, none⟩) (n3 + 1) cap9) := ⟨_, rfl⟩
                rw [← hv_]
                have b9 : Beside g5 v0_5 v0_6 := by rw [hv_]; exact Beside.setCell g5 _ 3 _
                replace H5 : Hid (Blk v0_6 g5 [.int .i64 mo, .slice s1 n1 c1, .slice s2 n2 c2, .slice (some ⟨g9, 0, none⟩) (n3 + 1) cap9]) := by show Blk _ _ _; rw [hv_]; exact H5.out.set 3 _
                replace H4 : Hid (Blk v0_6 g4 [.int .i64 0, .slice none 0 0, .slice none 0 0, .slice none 0 0]) := H4.out.beside b9 (by omega)
                replace HC : Hid (Sc3 B v0_6 (.slice s1 n1 c1) n1 (.slice s2 n2 c2) n2 (.slice (some ⟨g9, 0, none⟩) (n3 + 1) cap9) (n3 + 1)) := HC.out.beside b9 (by omega)
                replace HR : Hid (∃ q, Rd v0_6 r s n c q) := by obtain ⟨q_, R_⟩ := HR.out; have zr_ := R_.1; exact ⟨q_, Rd.below' R_ (b9.below (by omega) (by omega))⟩
                replace HS : Hid (Beside r w v0_6) := HS.out.onB (b9.below (by omega) HS.out.2.2.2.1)
                replace zB : B ≤ v0_6.heap.size := Nat.le_trans zB b9.2.2.2.1
                clear hv_ b9 u0 f0 uz hst
                refine hK.out _ _ (trivial) (fun hHeld => ?_)
                clear hK KK
                refine wpAnyH_done (by kernel_rfl) ?_ _
                clear hHeld
                go_wp2_with fail
                go_meet
                exact ⟨some ⟨g9, 0, none⟩, n3 + 1, cap9, by omega, HR, HS, H4, H5, HC, zB⟩
              · obtain ⟨q0, R0⟩ := HR.out
                go_simp
                go_wp2_with (first | (go_at_call 46; refine (below_any _ R0).mono ?_; rintro e v0_7 ⟨x7, p9, rfl, k0_, k6_, km_, R9, b9⟩))
                replace H4 : Hid (Blk v0_7 g4 [.int .i64 0, .slice none 0 0, .slice none 0 0, .slice none 0 0]) := H4.out.beside b9 (by omega)
                replace H5 : Hid (Blk v0_7 g5 [.int .i64 mo, .slice s1 n1 c1, .slice s2 n2 c2, .slice s3 n3 c3]) := H5.out.beside b9 (by omega)
                replace HC : Hid (Sc3 B v0_7 (.slice s1 n1 c1) n1 (.slice s2 n2 c2) n2 (.slice s3 n3 c3) n3) := HC.out.beside b9 (by omega)
                replace HS : Hid (Beside r w v0_7) := HS.out.trans b9
                replace zB : B ≤ v0_7.heap.size := Nat.le_trans zB b9.2.2.2.1
                replace HR : Hid (∃ q, Rd v0_7 r s n c q) := ⟨_, R9⟩
                clear R0 R9 b9 k0_ k6_ km_
                refine hK.out _ _ (trivial) (fun hHeld => ?_)
                clear hK KK
                refine wpAnyH_ready (rs := [1, 6]) (by kernel_rfl) (by simp) ?_
                refine (AllReadyH.cons rfl (fun KK hK => ?_) (AllReadyH.cons rfl (fun KK hK => ?_) AllReadyH.nil))
                · have c_ := H5.out.2.2 3 _ rfl
                  have z_ := H5.out.1
                  go_simp
                  clear c_ z_
                  refine hK.out _ _ (trivial) (fun hHeld => ?_)
                  clear hK KK
                  refine wpAnyH_ready (rs := [6]) (by kernel_rfl) (by simp) ?_
                  refine (AllReadyH.cons rfl (fun KK hK => ?_) AllReadyH.nil)
                  obtain ⟨q0, R0⟩ := HR.out
                  go_simp
                  go_wp2_with (first | (go_at_call 46; refine (below_any 5 R0).mono ?_; rintro e v0_9 ⟨x8, p9, rfl, y0_, y6_, ym_, R9, b9⟩))
                  replace H4 : Hid (Blk v0_9 g4 [.int .i64 0, .slice none 0 0, .slice none 0 0, .slice none 0 0]) := H4.out.beside b9 (by omega)
                  replace H5 : Hid (Blk v0_9 g5 [.int .i64 mo, .slice s1 n1 c1, .slice s2 n2 c2, .slice s3 n3 c3]) := H5.out.beside b9 (by omega)
                  replace HC : Hid (Sc3 B v0_9 (.slice s1 n1 c1) n1 (.slice s2 n2 c2) n2 (.slice s3 n3 c3) n3) := HC.out.beside b9 (by omega)
                  replace HS : Hid (Beside r w v0_9) := HS.out.trans b9
                  replace zB : B ≤ v0_9.heap.size := Nat.le_trans zB b9.2.2.2.1
                  replace HR : Hid (∃ q, Rd v0_9 r s n c q) := ⟨_, R9⟩
                  clear R0 R9 b9
                  refine hK.out _ _ (trivial) (fun hHeld => ?_)
                  clear hK KK
                  refine wpAnyH_take (i := 7) (v := .int .i64 (1 + x8)) rfl (by kernel_rfl) (by kernel_rfl) (by kernel_rfl) (fun _ _ _ h => h) (Or.inl ⟨by kernel_rfl, ?_⟩) hHeld ?_
                  · intro w' hSw
                    first | (go_simp; done) | (go_simp; with_reducible rfl) | (go_simp; rw [IntKind.wrap_i64]; omega) | (go_simp; omega)
                  simp only [Act.put, List.setIfInBounds_toArray, List.set_cons_zero, List.set_cons_succ]
                  refine wpAnyH_take (i := 8) (v := .agg #[.int .i64 x7, .int .i64 (1 + x8)]) rfl (by kernel_rfl) (by kernel_rfl) (by kernel_rfl) (fun _ _ _ h => h) (Or.inl ⟨by kernel_rfl, ?_⟩) hHeld ?_
                  · intro w' hSw
                    first | (go_simp; done) | (go_simp; with_reducible rfl) | (go_simp; rw [IntKind.wrap_i64]; omega) | (go_simp; omega)
                  simp only [Act.put, List.setIfInBounds_toArray, List.set_cons_zero, List.set_cons_succ]
                  refine wpAnyH_ready (rs := [9]) (by kernel_rfl) (by simp) ?_
                  refine (AllReadyH.cons rfl (fun KK hK => ?_) AllReadyH.nil)
                  go_simp
                  obtain ⟨v0_10, hv_⟩ : ∃ z, z = v0_9.alloc (.cells #[.int .i64 x7, .int .i64 (1 + x8)] 94) := ⟨_, rfl⟩
                  rw [← hv_]
                  obtain ⟨lb, hlb⟩ : ∃ z, z = v0_9.heap.size := ⟨_, rfl⟩
                  have b_ : Below v0_9.heap.size v0_9 v0_10 := by rw [hv_]; exact below0 _ _
                  have HLB : Hid (Blk v0_10 lb [.int .i64 x7, .int .i64 (1 + x8)]) := by show Blk _ _ _; rw [hv_, hlb]; exact Blk.new v0_9 #[.int .i64 x7, .int .i64 (1 + x8)] _
                  replace H4 : Hid (Blk v0_10 g4 [.int .i64 0, .slice none 0 0, .slice none 0 0, .slice none 0 0]) := H4.out.below b_
                  replace H5 : Hid (Blk v0_10 g5 [.int .i64 mo, .slice s1 n1 c1, .slice s2 n2 c2, .slice s3 n3 c3]) := H5.out.below b_
                  replace HC : Hid (Sc3 B v0_10 (.slice s1 n1 c1) n1 (.slice s2 n2 c2) n2 (.slice s3 n3 c3) n3) := HC.out.below b_
                  replace HS : Hid (Beside r w v0_10) := HS.out.trans (Beside.of b_)
                  replace zB : B ≤ v0_10.heap.size := Nat.le_trans zB b_.size
                  replace HR : Hid (∃ q, Rd v0_10 r s n c q) := by obtain ⟨q_, R_⟩ := HR.out; exact ⟨q_, R_.below b_⟩
                  try rw [← hlb]
                  clear hv_ hlb b_
                  refine hK.out _ _ (trivial) (fun hHeld => ?_)
                  clear hK KK
                  refine wpAnyH_ready (rs := [10]) (by kernel_rfl) (by simp) ?_
                  refine (AllReadyH.cons rfl (fun KK hK => ?_) AllReadyH.nil)
                  refine wp_sc3 HC.out (.tmp 48) (.tmp 56) (by rfl) (by rfl) lb (by rfl) (HLB.out.2.2 0 _ rfl) (HLB.out.2.2 1 _ rfl) (by omega) zB ?_
                  intro g9 cap9 v0_11 hc9 b9
                  replace HC : Hid (Sc3 B v0_11 (.slice s1 n1 c1) n1 (.slice s2 n2 c2) n2 (.slice (some ⟨g9, 0, none⟩) (n3 + 1) cap9) (n3 + 1)) := hc9
                  replace H4 : Hid (Blk v0_11 g4 [.int .i64 0, .slice none 0 0, .slice none 0 0, .slice none 0 0]) := H4.out.belowB b9 (by omega)
                  replace H5 : Hid (Blk v0_11 g5 [.int .i64 mo, .slice s1 n1 c1, .slice s2 n2 c2, .slice s3 n3 c3]) := H5.out.belowB b9 (by omega)
                  replace HR : Hid (∃ q, Rd v0_11 r s n c q) := by obtain ⟨q_, R_⟩ := HR.out; exact ⟨q_, Rd.below' R_ (b9.mono (by omega))⟩
                  replace HS : Hid (Beside r w v0_11) := HS.out.onB (b9.mono (by omega))
                  replace zB : B ≤ v0_11.heap.size := Nat.le_trans zB b9.size
                  clear hc9 b9 HLB
                  go_simp
                  refine hK.out _ _ (trivial) (fun hHeld => ?_)
                  clear hK KK
                  refine wpAnyH_take (i := 11) (v := .pointer (some ⟨g5, 3, none⟩)) rfl (by kernel_rfl) (by kernel_rfl) (by kernel_rfl) (fun _ _ _ h => h) (Or.inl ⟨by kernel_rfl, ?_⟩) hHeld ?_
                  · intro w' hSw
                    first | (go_simp; done) | (go_simp; with_reducible rfl) | (go_simp; rw [IntKind.wrap_i64]; omega) | (go_simp; omega)
                  simp only [Act.put, List.setIfInBounds_toArray, List.set_cons_zero, List.set_cons_succ]
                  refine wpAnyH_ready (rs := [12]) (by kernel_rfl) (by simp) ?_
                  refine (AllReadyH.cons rfl (fun KK hK => ?_) AllReadyH.nil)
                  have u0 := H5.out.2.2 3 _ rfl
                  have f0 := H5.out.2.1 3
                  have uz := H5.out.1
                  have hst := store_slT
                  go_simp
                  obtain ⟨v0_12, hv_⟩ : ∃ z, z = v0_11.setCell ⟨g5, 3, none⟩ (.slice (some ⟨g9, 0, none⟩) (n3 + 1) cap9) := ⟨_, rfl⟩
                  rw [← hv_]
                  have b9 : Beside g5 v0_11 v0_12 := by rw [hv_]; exact Beside.setCell g5 _ 3 _
                  replace H5 : Hid (Blk v0_12 g5 [.int .i64 mo, .slice s1 n1 c1, .slice s2 n2 c2, .slice (some ⟨g9, 0, none⟩) (n3 + 1) cap9]) := by show Blk _ _ _; rw [hv_]; exact H5.out.set 3 _
                  replace H4 : Hid (Blk v0_12 g4 [.int .i64 0, .slice none 0 0, .slice none 0 0, .slice none 0 0]) := H4.out.beside b9 (by omega)
                  replace HC : Hid (Sc3 B v0_12 (.slice s1 n1 c1) n1 (.slice s2 n2 c2) n2 (.slice (some ⟨g9, 0, none⟩) (n3 + 1) cap9) (n3 + 1)) := HC.out.beside b9 (by omega)
                  replace HR : Hid (∃ q, Rd v0_12 r s n c q) := by obtain ⟨q_, R_⟩ := HR.out; have zr_ := R_.1; exact ⟨q_, Rd.below' R_ (b9.below (by omega) (by omega))⟩
                  replace HS : Hid (Beside r w v0_12) := HS.out.onB (b9.below (by omega) HS.out.2.2.2.1)
                  replace zB : B ≤ v0_12.heap.size := Nat.le_trans zB b9.2.2.2.1
                  clear hv_ b9 u0 f0 uz hst
                  refine hK.out _ _ (trivial) (fun hHeld => ?_)
                  clear hK KK
                  refine wpAnyH_done (by kernel_rfl) ?_ _
                  clear hHeld
                  go_wp2_with fail
                  go_meet
                  exact ⟨some ⟨g9, 0, none⟩, n3 + 1, cap9, by omega, HR, HS, H4, H5, HC, zB⟩
                · obtain ⟨q0, R0⟩ := HR.out
                  go_simp
                  go_wp2_with (first | (go_at_call 46; refine (below_any 5 R0).mono ?_; rintro e v0_13 ⟨x8, p9, rfl, y0_, y6_, ym_, R9, b9⟩))
                  replace H4 : Hid (Blk v0_13 g4 [.int .i64 0, .slice none 0 0, .slice none 0 0, .slice none 0 0]) := H4.out.beside b9 (by omega)
                  replace H5 : Hid (Blk v0_13 g5 [.int .i64 mo, .slice s1 n1 c1, .slice s2 n2 c2, .slice s3 n3 c3]) := H5.out.beside b9 (by omega)
                  replace HC : Hid (Sc3 B v0_13 (.slice s1 n1 c1) n1 (.slice s2 n2 c2) n2 (.slice s3 n3 c3) n3) := HC.out.beside b9 (by omega)
                  replace HS : Hid (Beside r w v0_13) := HS.out.trans b9
                  replace zB : B ≤ v0_13.heap.size := Nat.le_trans zB b9.2.2.2.1
                  replace HR : Hid (∃ q, Rd v0_13 r s n c q) := ⟨_, R9⟩
                  clear R0 R9 b9
                  refine hK.out _ _ (trivial) (fun hHeld => ?_)
                  clear hK KK
                  refine wpAnyH_take (i := 7) (v := .int .i64 (1 + x8)) rfl (by kernel_rfl) (by kernel_rfl) (by kernel_rfl) (fun _ _ _ h => h) (Or.inl ⟨by kernel_rfl, ?_⟩) hHeld ?_
                  · intro w' hSw
                    first | (go_simp; done) | (go_simp; with_reducible rfl) | (go_simp; rw [IntKind.wrap_i64]; omega) | (go_simp; omega)
                  simp only [Act.put, List.setIfInBounds_toArray, List.set_cons_zero, List.set_cons_succ]
                  refine wpAnyH_take (i := 8) (v := .agg #[.int .i64 x7, .int .i64 (1 + x8)]) rfl (by kernel_rfl) (by kernel_rfl) (by kernel_rfl) (fun _ _ _ h => h) (Or.inl ⟨by kernel_rfl, ?_⟩) hHeld ?_
                  · intro w' hSw
                    first | (go_simp; done) | (go_simp; with_reducible rfl) | (go_simp; rw [IntKind.wrap_i64]; omega) | (go_simp; omega)
                  simp only [Act.put, List.setIfInBounds_toArray, List.set_cons_zero, List.set_cons_succ]
                  refine wpAnyH_ready (rs := [1, 9]) (by kernel_rfl) (by simp) ?_
                  refine (AllReadyH.cons rfl (fun KK hK => ?_) (AllReadyH.cons rfl (fun KK hK => ?_) AllReadyH.nil))
                  · have c_ := H5.out.2.2 3 _ rfl
                    have z_ := H5.out.1
                    go_simp
                    clear c_ z_
                    refine hK.out _ _ (trivial) (fun hHeld => ?_)
                    clear hK KK
                    refine wpAnyH_ready (rs := [9]) (by kernel_rfl) (by simp) ?_
                    refine (AllReadyH.cons rfl (fun KK hK => ?_) AllReadyH.nil)
                    go_simp
                    obtain ⟨v0_15, hv_⟩ : ∃ z, z = v0_13.alloc (.cells #[.int .i64 x7, .int .i64 (1 + x8)] 94) := ⟨_, rfl⟩
                    rw [← hv_]
                    obtain ⟨lb, hlb⟩ : ∃ z, z = v0_13.heap.size := ⟨_, rfl⟩
                    have b_ : Below v0_13.heap.size v0_13 v0_15 := by rw [hv_]; exact below0 _ _
                    have HLB : Hid (Blk v0_15 lb [.int .i64 x7, .int .i64 (1 + x8)]) := by show Blk _ _ _; rw [hv_, hlb]; exact Blk.new v0_13 #[.int .i64 x7, .int .i64 (1 + x8)] _
                    replace H4 : Hid (Blk v0_15 g4 [.int .i64 0, .slice none 0 0, .slice none 0 0, .slice none 0 0]) := H4.out.below b_
                    replace H5 : Hid (Blk v0_15 g5 [.int .i64 mo, .slice s1 n1 c1, .slice s2 n2 c2, .slice s3 n3 c3]) := H5.out.below b_
                    replace HC : Hid (Sc3 B v0_15 (.slice s1 n1 c1) n1 (.slice s2 n2 c2) n2 (.slice s3 n3 c3) n3) := HC.out.below b_
                    replace HS : Hid (Beside r w v0_15) := HS.out.trans (Beside.of b_)
                    replace zB : B ≤ v0_15.heap.size := Nat.le_trans zB b_.size
                    replace HR : Hid (∃ q, Rd v0_15 r s n c q) := by obtain ⟨q_, R_⟩ := HR.out; exact ⟨q_, R_.below b_⟩
                    try rw [← hlb]
                    clear hv_ hlb b_
                    refine hK.out _ _ (trivial) (fun hHeld => ?_)
                    clear hK KK
                    refine wpAnyH_ready (rs := [10]) (by kernel_rfl) (by simp) ?_
                    refine (AllReadyH.cons rfl (fun KK hK => ?_) AllReadyH.nil)
                    refine wp_sc3 HC.out (.tmp 48) (.tmp 56) (by rfl) (by rfl) lb (by rfl) (HLB.out.2.2 0 _ rfl) (HLB.out.2.2 1 _ rfl) (by omega) zB ?_
                    intro g9 cap9 v0_16 hc9 b9
                    replace HC : Hid (Sc3 B v0_16 (.slice s1 n1 c1) n1 (.slice s2 n2 c2) n2 (.slice (some ⟨g9, 0, none⟩) (n3 + 1) cap9) (n3 + 1)) := hc9
                    replace H4 : Hid (Blk v0_16 g4 [.int .i64 0, .slice none 0 0, .slice none 0 0, .slice none 0 0]) := H4.out.belowB b9 (by omega)
                    replace H5 : Hid (Blk v0_16 g5 [.int .i64 mo, .slice s1 n1 c1, .slice s2 n2 c2, .slice s3 n3 c3]) := H5.out.belowB b9 (by omega)
                    replace HR : Hid (∃ q, Rd v0_16 r s n c q) := by obtain ⟨q_, R_⟩ := HR.out; exact ⟨q_, Rd.below' R_ (b9.mono (by omega))⟩
                    replace HS : Hid (Beside r w v0_16) := HS.out.onB (b9.mono (by omega))
                    replace zB : B ≤ v0_16.heap.size := Nat.le_trans zB b9.size
                    clear hc9 b9 HLB
                    go_simp
                    refine hK.out _ _ (trivial) (fun hHeld => ?_)
                    clear hK KK
                    refine wpAnyH_take (i := 11) (v := .pointer (some ⟨g5, 3, none⟩)) rfl (by kernel_rfl) (by kernel_rfl) (by kernel_rfl) (fun _ _ _ h => h) (Or.inl ⟨by kernel_rfl, ?_⟩) hHeld ?_
                    · intro w' hSw
                      first | (go_simp; done) | (go_simp; with_reducible rfl) | (go_simp; rw [IntKind.wrap_i64]; omega) | (go_simp; omega)
                    simp only [Act.put, List.setIfInBounds_toArray, List.set_cons_zero, List.set_cons_succ]
                    refine wpAnyH_ready (rs := [12]) (by kernel_rfl) (by simp) ?_
                    refine (AllReadyH.cons rfl (fun KK hK => ?_) AllReadyH.nil)
                    have u0 := H5.out.2.2 3 _ rfl
                    have f0 := H5.out.2.1 3
                    have uz := H5.out.1
                    have hst := store_slT
                    go_simp
                    obtain ⟨v0_17, hv_⟩ : ∃ z, z = v0_16.setCell ⟨g5, 3, none⟩ (.slice (some ⟨g9, 0, none⟩) (n3 + 1) cap9) := ⟨_, rfl⟩
                    rw [← hv_]
                    have b9 : Beside g5 v0_16 v0_17 := by rw [hv_]; exact Beside.setCell g5 _ 3 _
                    replace H5 : Hid (Blk v0_17 g5 [.int .i64 mo, .slice s1 n1 c1, .slice s2 n2 c2, .slice (some ⟨g9, 0, none⟩) (n3 + 1) cap9]) := by show Blk _ _ _; rw [hv_]; exact H5.out.set 3 _
                    replace H4 : Hid (Blk v0_17 g4 [.int .i64 0, .slice none 0 0, .slice none 0 0, .slice none 0 0]) := H4.out.beside b9 (by omega)
                    replace HC : Hid (Sc3 B v0_17 (.slice s1 n1 c1) n1 (.slice s2 n2 c2) n2 (.slice (some ⟨g9, 0, none⟩) (n3 + 1) cap9) (n3 + 1)) := HC.out.beside b9 (by omega)
                    replace HR : Hid (∃ q, Rd v0_17 r s n c q) := by obtain ⟨q_, R_⟩ := HR.out; have zr_ := R_.1; exact ⟨q_, Rd.below' R_ (b9.below (by omega) (by omega))⟩
                    replace HS : Hid (Beside r w v0_17) := HS.out.onB (b9.below (by omega) HS.out.2.2.2.1)
                    replace zB : B ≤ v0_17.heap.size := Nat.le_trans zB b9.2.2.2.1
                    clear hv_ b9 u0 f0 uz hst
                    refine hK.out _ _ (trivial) (fun hHeld => ?_)
                    clear hK KK
                    refine wpAnyH_done (by kernel_rfl) ?_ _
                    clear hHeld
                    go_wp2_with fail
                    go_meet
                    exact ⟨some ⟨g9, 0, none⟩, n3 + 1, cap9, by omega, HR, HS, H4, H5, HC, zB⟩
                  · go_simp
                    obtain ⟨v0_18, hv_⟩ : ∃ z, z = v0_13.alloc (.cells #[.int .i64 x7, .int .i64 (1 + x8)] 94) := ⟨_, rfl⟩
                    rw [← hv_]
                    obtain ⟨lb, hlb⟩ : ∃ z, z = v0_13.heap.size := ⟨_, rfl⟩
                    have b_ : Below v0_13.heap.size v0_13 v0_18 := by rw [hv_]; exact below0 _ _
                    have HLB : Hid (Blk v0_18 lb [.int .i64 x7, .int .i64 (1 + x8)]) := by show Blk _ _ _; rw [hv_, hlb]; exact Blk.new v0_13 #[.int .i64 x7, .int .i64 (1 + x8)] _
                    replace H4 : Hid (Blk v0_18 g4 [.int .i64 0, .slice none 0 0, .slice none 0 0, .slice none 0 0]) := H4.out.below b_
                    replace H5 : Hid (Blk v0_18 g5 [.int .i64 mo, .slice s1 n1 c1, .slice s2 n2 c2, .slice s3 n3 c3]) := H5.out.below b_
                    replace HC : Hid (Sc3 B v0_18 (.slice s1 n1 c1) n1 (.slice s2 n2 c2) n2 (.slice s3 n3 c3) n3) := HC.out.below b_
                    replace HS : Hid (Beside r w v0_18) := HS.out.trans (Beside.of b_)
                    replace zB : B ≤ v0_18.heap.size := Nat.le_trans zB b_.size
                    replace HR : Hid (∃ q, Rd v0_18 r s n c q) := by obtain ⟨q_, R_⟩ := HR.out; exact ⟨q_, R_.below b_⟩
                    try rw [← hlb]
                    clear hv_ hlb b_
                    refine hK.out _ _ (trivial) (fun hHeld => ?_)
                    clear hK KK
                    refine wpAnyH_ready (rs := [1]) (by kernel_rfl) (by simp) ?_
                    refine (AllReadyH.cons rfl (fun KK hK => ?_) AllReadyH.nil)
                    have c_ := H5.out.2.2 3 _ rfl
                    have z_ := H5.out.1
                    go_simp
                    clear c_ z_
                    refine hK.out _ _ (trivial) (fun hHeld => ?_)
                    clear hK KK
                    refine wpAnyH_ready (rs := [10]) (by kernel_rfl) (by simp) ?_
                    refine (AllReadyH.cons rfl (fun KK hK => ?_) AllReadyH.nil)
                    refine wp_sc3 HC.out (.tmp 48) (.tmp 56) (by rfl) (by rfl) lb (by rfl) (HLB.out.2.2 0 _ rfl) (HLB.out.2.2 1 _ rfl) (by omega) zB ?_
                    intro g9 cap9 v0_20 hc9 b9
                    replace HC : Hid (Sc3 B v0_20 (.slice s1 n1 c1) n1 (.slice s2 n2 c2) n2 (.slice (some ⟨g9, 0, none⟩) (n3 + 1) cap9) (n3 + 1)) := hc9
                    replace H4 : Hid (Blk v0_20 g4 [.int .i64 0, .slice none 0 0, .slice none 0 0, .slice none 0 0]) := H4.out.belowB b9 (by omega)
                    replace H5 : Hid (Blk v0_20 g5 [.int .i64 mo, .slice s1 n1 c1, .slice s2 n2 c2, .slice s3 n3 c3]) := H5.out.belowB b9 (by omega)
                    replace HR : Hid (∃ q, Rd v0_20 r s n c q) := by obtain ⟨q_, R_⟩ := HR.out; exact ⟨q_, Rd.below' R_ (b9.mono (by omega))⟩
                    replace HS : Hid (Beside r w v0_20) := HS.out.onB (b9.mono (by omega))
                    replace zB : B ≤ v0_20.heap.size := Nat.le_trans zB b9.size
                    clear hc9 b9 HLB
                    go_simp
                    refine hK.out _ _ (trivial) (fun hHeld => ?_)
                    clear hK KK
                    refine wpAnyH_take (i := 11) (v := .pointer (some ⟨g5, 3, none⟩)) rfl (by kernel_rfl) (by kernel_rfl) (by kernel_rfl) (fun _ _ _ h => h) (Or.inl ⟨by kernel_rfl, ?_⟩) hHeld ?_
                    · intro w' hSw
                      first | (go_simp; done) | (go_simp; with_reducible rfl) | (go_simp; rw [IntKind.wrap_i64]; omega) | (go_simp; omega)
                    simp only [Act.put, List.setIfInBounds_toArray, List.set_cons_zero, List.set_cons_succ]
                    refine wpAnyH_ready (rs := [12]) (by kernel_rfl) (by simp) ?_
                    refine (AllReadyH.cons rfl (fun KK hK => ?_) AllReadyH.nil)
                    have u0 := H5.out.2.2 3 _ rfl
                    have f0 := H5.out.2.1 3
                    have uz := H5.out.1
                    have hst := store_slT
                    go_simp
                    obtain ⟨v0_21, hv_⟩ : ∃ z, z = v0_20.setCell ⟨g5, 3, none⟩ (.slice (some ⟨g9, 0, none⟩) (n3 + 1) cap9) := ⟨_, rfl⟩
                    rw [← hv_]
                    have b9 : Beside g5 v0_20 v0_21 := by rw [hv_]; exact Beside.setCell g5 _ 3 _
                    replace H5 : Hid (Blk v0_21 g5 [.int .i64 mo, .slice s1 n1 c1, .slice s2 n2 c2, .slice (some ⟨g9, 0, none⟩) (n3 + 1) cap9]) := by show Blk _ _ _; rw [hv_]; exact H5.out.set 3 _
                    replace H4 : Hid (Blk v0_21 g4 [.int .i64 0, .slice none 0 0, .slice none 0 0, .slice none 0 0]) := H4.out.beside b9 (by omega)
                    replace HC : Hid (Sc3 B v0_21 (.slice s1 n1 c1) n1 (.slice s2 n2 c2) n2 (.slice (some ⟨g9, 0, none⟩) (n3 + 1) cap9) (n3 + 1)) := HC.out.beside b9 (by omega)
                    replace HR : Hid (∃ q, Rd v0_21 r s n c q) := by obtain ⟨q_, R_⟩ := HR.out; have zr_ := R_.1; exact ⟨q_, Rd.below' R_ (b9.below (by omega) (by omega))⟩
                    replace HS : Hid (Beside r w v0_21) := HS.out.onB (b9.below (by omega) HS.out.2.2.2.1)
                    replace zB : B ≤ v0_21.heap.size := Nat.le_trans zB b9.2.2.2.1
                    clear hv_ b9 u0 f0 uz hst
                    refine hK.out _ _ (trivial) (fun hHeld => ?_)
                    clear hK KK
                    refine wpAnyH_done (by kernel_rfl) ?_ _
                    clear hHeld
                    go_wp2_with fail
                    go_meet
                    exact ⟨some ⟨g9, 0, none⟩, n3 + 1, cap9, by omega, HR, HS, H4, H5, HC, zB⟩
          clear HR HS H4 H5 HC zB hn3
          obtain ⟨s3, n3, c3, hn3, HR, HS, H4, H5, HC, zB⟩ := hcut
          rename World => w7
          obtain ⟨q0, R0⟩ := HR.out
          go_wp2_with fail
          refine (below_any 60 R0).mono ?_
          rintro e w8 ⟨kk, p9, rfl, k0_, k6_, km_, R9, b9⟩
          replace H4 : Hid (Blk w8 g4 [.int .i64 0, .slice none 0 0, .slice none 0 0, .slice none 0 0]) := H4.out.beside b9 (by omega)
          replace H5 : Hid (Blk w8 g5 [.int .i64 mo, .slice s1 n1 c1, .slice s2 n2 c2, .slice s3 n3 c3]) := H5.out.beside b9 (by omega)
          replace HC : Hid (Sc3 B w8 (.slice s1 n1 c1) n1 (.slice s2 n2 c2) n2 (.slice s3 n3 c3) n3) := HC.out.beside b9 (by omega)
          replace HS : Hid (Beside r w w8) := HS.out.trans b9
          replace zB : B ≤ w8.heap.size := Nat.le_trans zB b9.2.2.2.1
          replace HR : Hid (∃ q, Rd w8 r s n c q) := ⟨_, R9⟩
          clear R0 R9 b9 k0_ k6_ km_
          by_cases e0 : kk = 0
          case pos =>
            subst e0
            obtain ⟨q0, R0⟩ := HR.out
            go_wp2_with fail
            refine (off_all 0 7 R0).mono ?_
            rintro e w9 ⟨x9, p9, rfl, R9, b9⟩
            replace H4 : Hid (Blk w9 g4 [.int .i64 0, .slice none 0 0, .slice none 0 0, .slice none 0 0]) := H4.out.beside b9 (by omega)
            replace H5 : Hid (Blk w9 g5 [.int .i64 mo, .slice s1 n1 c1, .slice s2 n2 c2, .slice s3 n3 c3]) := H5.out.beside b9 (by omega)
            replace HC : Hid (Sc3 B w9 (.slice s1 n1 c1) n1 (.slice s2 n2 c2) n2 (.slice s3 n3 c3) n3) := HC.out.beside b9 (by omega)
            replace HS : Hid (Beside r w w9) := HS.out.trans b9
            replace zB : B ≤ w9.heap.size := Nat.le_trans zB b9.2.2.2.1
            replace HR : Hid (∃ q, Rd w9 r s n c q) := ⟨_, R9⟩
            clear R0 R9 b9
            have v0 := H5.out.2.2 0 _ rfl
            have g0 := H5.out.2.1 0
            have vz := H5.out.1
            have hst := store_slT
            go_upto_region 21 with fail
            obtain ⟨w10, hv_⟩ : ∃ z, z = w9.setCell ⟨g5, 0, none⟩ (.int .i64 x9) := ⟨_, rfl⟩
            rw [← hv_]
            have b9 : Beside g5 w9 w10 := by rw [hv_]; exact Beside.setCell g5 _ 0 _
            replace H5 : Hid (Blk w10 g5 [.int .i64 x9, .slice s1 n1 c1, .slice s2 n2 c2, .slice s3 n3 c3]) := by show Blk _ _ _; rw [hv_]; exact H5.out.set 0 _
            replace H4 : Hid (Blk w10 g4 [.int .i64 0, .slice none 0 0, .slice none 0 0, .slice none 0 0]) := H4.out.beside b9 (by omega)
            replace HC : Hid (Sc3 B w10 (.slice s1 n1 c1) n1 (.slice s2 n2 c2) n2 (.slice s3 n3 c3) n3) := HC.out.beside b9 (by omega)
            replace HR : Hid (∃ q, Rd w10 r s n c q) := by obtain ⟨q_, R_⟩ := HR.out; have zr_ := R_.1; exact ⟨q_, Rd.below' R_ (b9.below (by omega) (by omega))⟩
            replace HS : Hid (Beside r w w10) := HS.out.onB (b9.below (by omega) HS.out.2.2.2.1)
            clear hv_ b9 v0 g0 vz hst
            have u0 := H5.out.2.2 0 _ rfl
            have t0 := H4.out.2.2 0 _ rfl
            have f0 := H4.out.2.1 0
            have u1 := H5.out.2.2 1 _ rfl
            have t1 := H4.out.2.2 1 _ rfl
            have f1 := H4.out.2.1 1
            have u2 := H5.out.2.2 2 _ rfl
            have t2 := H4.out.2.2 2 _ rfl
            have f2 := H4.out.2.1 2
            have u3 := H5.out.2.2 3 _ rfl
            have t3 := H4.out.2.2 3 _ rfl
            have f3 := H4.out.2.1 3
            have uz := H5.out.1
            have tz := H4.out.1
            have hst := store_slT
            have n45 : g4 ≠ g5 := by omega
            obtain ⟨qz, Rz⟩ := HR.out
            have zrz := Rz.1
            have hrow : ∀ W2, Beside g4 w10 W2 → ∃ q, Rd W2 r s n c q ∧ Beside r w W2 ∧ Sc3 w.heap.size W2 (.slice s1 n1 c1) n1 (.slice s2 n2 c2) n2 (.slice s3 n3 c3) n3 := fun W2 hb => ⟨qz, Rd.below' Rz (hb.below (by omega) (by omega)), HS.out.onB (hb.below (by omega) HS.out.2.2.2.1), (HC.out.beside hb (by omega)).low (by omega)⟩
            go_wp2
            refine bodyPost_ret (v := .agg #[.int .i64 x9, .slice s1 n1 c1, .slice s2 n2 c2, .slice s3 n3 c3]) (by simp [results, Try.results44, go_sem, u0, u1, u2, u3, t0, t1, t2, t3, n45, n45.symm]) rfl ?_
            obtain ⟨q9, e1, e2, e3⟩ := hrow _ (((Beside.setCell g4 _ 0 _).trans (Beside.setCell g4 _ 1 _)).trans ((Beside.setCell g4 _ 2 _).trans (Beside.setCell g4 _ 3 _)))
            exact ⟨x9, s1, n1, c1, s2, n2, c2, s3, n3, c3, q9, rfl, by omega, by omega, by omega, e3, e1, e2⟩
          case neg =>
            have f0_ : (kk == 0) = false := beq_false_of_ne e0
            by_cases e1 : kk = 1
            case pos =>
              subst e1
              have v1 := H5.out.2.2 1 _ rfl
              have vz := H5.out.1
              have hst := store_slT
              clear f0_ e0
              go_upto_region 16 with fail
              go_upto_region 21 with (at_builtin; refine list_sc1 HC.out (.tmp 69) (.tmp 70) (by rfl) (by rfl) (by rfl) (by rfl) (by omega) zB ?_; intro g9 cap9 w9 hc9 b9; have Hb9 : Hid (Below B w8 w9) := b9; have HC9 : Hid (Sc3 B w9 (.slice (some ⟨g9, 0, none⟩) (n1 + 1) cap9) (n1 + 1) (.slice s2 n2 c2) n2 (.slice s3 n3 c3) n3) := hc9; clear hc9 b9; have e9 := (Hb9.out.cell (p := ⟨g5, 1, none⟩) (by simp only; omega)).trans v1; have f9 := (Hb9.out.frozen (p := ⟨g5, 1, none⟩) (by simp only; omega)).trans (H5.out.2.1 1); have z9 := Nat.lt_of_lt_of_le vz Hb9.out.size)
              obtain ⟨w10, hv_⟩ : ∃ z, z = w9.setCell ⟨g5, 1, none⟩ (.slice (some ⟨g9, 0, none⟩) (n1 + 1) cap9) := ⟨_, rfl⟩
              rw [← hv_]
              have b8 := Hb9.out
              have b9 : Beside g5 w9 w10 := by rw [hv_]; exact Beside.setCell g5 _ 1 _
              have H5x : Hid (Blk w9 g5 [.int .i64 mo, .slice s1 n1 c1, .slice s2 n2 c2, .slice s3 n3 c3]) := H5.out.belowB b8 (by omega)
              replace H5 : Hid (Blk w10 g5 [.int .i64 mo, .slice (some ⟨g9, 0, none⟩) (n1 + 1) cap9, .slice s2 n2 c2, .slice s3 n3 c3]) := by show Blk _ _ _; rw [hv_]; exact H5x.out.set 1 _
              replace H4 : Hid (Blk w10 g4 [.int .i64 0, .slice none 0 0, .slice none 0 0, .slice none 0 0]) := (H4.out.belowB b8 (by omega)).beside b9 (by omega)
              replace HC : Hid (Sc3 B w10 (.slice (some ⟨g9, 0, none⟩) (n1 + 1) cap9) (n1 + 1) (.slice s2 n2 c2) n2 (.slice s3 n3 c3) n3) := HC9.out.beside b9 (by omega)
              replace HR : Hid (∃ q, Rd w10 r s n c q) := by obtain ⟨q_, R_⟩ := HR.out; have zr_ := R_.1; have zs_ := b8.size; exact ⟨q_, Rd.below' (Rd.below' R_ (b8.mono (by omega))) (b9.below (by omega) (by omega))⟩
              replace HS : Hid (Beside r w w10) := by have q_ := HS.out.onB (b8.mono (by omega)); exact q_.onB (b9.below (by omega) q_.2.2.2.1)
              replace zB : B ≤ w10.heap.size := Nat.le_trans zB (Nat.le_trans b8.size b9.2.2.2.1)
              clear hv_ b8 b9 v1 e9 f9 z9 vz hst H5x
              have u0 := H5.out.2.2 0 _ rfl
              have t0 := H4.out.2.2 0 _ rfl
              have f0 := H4.out.2.1 0
              have u1 := H5.out.2.2 1 _ rfl
              have t1 := H4.out.2.2 1 _ rfl
              have f1 := H4.out.2.1 1
              have u2 := H5.out.2.2 2 _ rfl
              have t2 := H4.out.2.2 2 _ rfl
              have f2 := H4.out.2.1 2
              have u3 := H5.out.2.2 3 _ rfl
              have t3 := H4.out.2.2 3 _ rfl
              have f3 := H4.out.2.1 3
              have uz := H5.out.1
              have tz := H4.out.1
              have hst := store_slT
              have n45 : g4 ≠ g5 := by omega
              obtain ⟨qz, Rz⟩ := HR.out
              have zrz := Rz.1
              have hrow : ∀ W2, Beside g4 w10 W2 → ∃ q, Rd W2 r s n c q ∧ Beside r w W2 ∧ Sc3 w.heap.size W2 (.slice (some ⟨g9, 0, none⟩) (n1 + 1) cap9) (n1 + 1) (.slice s2 n2 c2) n2 (.slice s3 n3 c3) n3 := fun W2 hb => ⟨qz, Rd.below' Rz (hb.below (by omega) (by omega)), HS.out.onB (hb.below (by omega) HS.out.2.2.2.1), (HC.out.beside hb (by omega)).low (by omega)⟩
              go_wp2
              refine bodyPost_ret (v := .agg #[.int .i64 mo, .slice (some ⟨g9, 0, none⟩) (n1 + 1) cap9, .slice s2 n2 c2, .slice s3 n3 c3]) (by simp [results, Try.results44, go_sem, u0, u1, u2, u3, t0, t1, t2, t3, n45, n45.symm]) rfl ?_
              obtain ⟨q9, e1, e2, e3⟩ := hrow _ (((Beside.setCell g4 _ 0 _).trans (Beside.setCell g4 _ 1 _)).trans ((Beside.setCell g4 _ 2 _).trans (Beside.setCell g4 _ 3 _)))
              exact ⟨mo, some ⟨g9, 0, none⟩, n1 + 1, cap9, s2, n2, c2, s3, n3, c3, q9, rfl, by omega, by omega, by omega, e3, e1, e2⟩
            case neg =>
              have f1_ : (kk == 1) = false := beq_false_of_ne e1
              by_cases e2 : kk = 2
              case pos =>
                subst e2
                obtain ⟨mm, hmm⟩ : ∃ m, IntKind.i64.wrap ((N : Int) - 1) = m := ⟨_, rfl⟩
                clear f0_ f1_ e0 e1
                go_upto_region 18 with fail
                refine wp_region_held_drew (S := fun w' => True) (by kernel_rfl) ?_ (fun hHeld => ?_)
                · trivial
                obtain ⟨v0, hv0⟩ : ∃ z, z = w8.drew := ⟨_, rfl⟩
                try rw [← hv0] at hHeld
                rw [← hv0]
                have bv0 : Below w8.heap.size w8 v0 := by rw [hv0]; exact Below.drew (Below.refl _ _)
                clear hv0
                replace H4 : Hid (Blk v0 g4 [.int .i64 0, .slice none 0 0, .slice none 0 0, .slice none 0 0]) := H4.out.below bv0
                replace H5 : Hid (Blk v0 g5 [.int .i64 mo, .slice s1 n1 c1, .slice s2 n2 c2, .slice s3 n3 c3]) := H5.out.below bv0
                replace HC : Hid (Sc3 B v0 (.slice s1 n1 c1) n1 (.slice s2 n2 c2) n2 (.slice s3 n3 c3) n3) := HC.out.below bv0
                replace HS : Hid (Beside r w v0) := HS.out.trans (Beside.of bv0)
                replace zB : B ≤ v0.heap.size := Nat.le_trans zB bv0.size
                replace HR : Hid (∃ q, Rd v0 r s n c q) := by obtain ⟨q_, R_⟩ := HR.out; exact ⟨q_, R_.below bv0⟩
                clear bv0
                refine wpAnyH_take (i := 0) (v := .pointer (some ⟨g5, 2, none⟩)) rfl (by kernel_rfl) (by kernel_rfl) (by kernel_rfl) (fun _ _ _ h => h) (Or.inl ⟨by kernel_rfl, ?_⟩) hHeld ?_
                · intro w' hSw
                  first | (go_simp; done) | (go_simp; with_reducible rfl) | (go_simp; rw [IntKind.wrap_i64]; omega) | (go_simp; omega)
                simp only [Act.put, List.setIfInBounds_toArray, List.set_cons_zero, List.set_cons_succ]
                refine wpAnyH_take (i := 2) (v := .pointer (some ⟨r, 0, none⟩)) rfl (by kernel_rfl) (by kernel_rfl) (by kernel_rfl) (fun _ _ _ h => h) (Or.inl ⟨by kernel_rfl, ?_⟩) hHeld ?_
                · intro w' hSw
                  first | (go_simp; done) | (go_simp; with_reducible rfl) | (go_simp; rw [IntKind.wrap_i64]; omega) | (go_simp; omega)
                simp only [Act.put, List.setIfInBounds_toArray, List.set_cons_zero, List.set_cons_succ]
                refine wpAnyH_take (i := 3) (v := .int .i64 (N : Int)) rfl (by kernel_rfl) (by kernel_rfl) (by kernel_rfl) (fun _ _ _ h => h) (Or.inl ⟨by kernel_rfl, ?_⟩) hHeld ?_
                · intro w' hSw
                  first | (go_simp; done) | (go_simp; with_reducible rfl) | (go_simp; rw [IntKind.wrap_i64]; omega) | (go_simp; omega)
                simp only [Act.put, List.setIfInBounds_toArray, List.set_cons_zero, List.set_cons_succ]
                refine wpAnyH_take (i := 4) (v := .int .i64 mm) rfl (by kernel_rfl) (by kernel_rfl) (by kernel_rfl) (fun _ _ _ h => h) (Or.inl ⟨by kernel_rfl, ?_⟩) hHeld ?_
                · intro w' hSw
                  first | (go_simp; done) | (go_simp; exact hmm) | (go_simp; rw [hmm])
                simp only [Act.put, List.setIfInBounds_toArray, List.set_cons_zero, List.set_cons_succ]
                refine wpAnyH_ready (rs := [1, 5]) (by kernel_rfl) (by simp) ?_
                refine (AllReadyH.cons rfl (fun KK hK => ?_) (AllReadyH.cons rfl (fun KK hK => ?_) AllReadyH.nil))
                · have c_ := H5.out.2.2 2 _ rfl
                  have z_ := H5.out.1
                  go_simp
                  clear c_ z_
                  refine hK.out _ _ (trivial) (fun hHeld => ?_)
                  clear hK KK
                  refine wpAnyH_ready (rs := [5]) (by kernel_rfl) (by simp) ?_
                  refine (AllReadyH.cons rfl (fun KK hK => ?_) AllReadyH.nil)
                  obtain ⟨q0, R0⟩ := HR.out
                  go_simp
                  go_wp2_with (first | (go_at_call 74; refine (off_all 0 _ R0).mono ?_; rintro e v0_2 ⟨x9, p9, rfl, R9, b9⟩))
                  replace H4 : Hid (Blk v0_2 g4 [.int .i64 0, .slice none 0 0, .slice none 0 0, .slice none 0 0]) := H4.out.beside b9 (by omega)
                  replace H5 : Hid (Blk v0_2 g5 [.int .i64 mo, .slice s1 n1 c1, .slice s2 n2 c2, .slice s3 n3 c3]) := H5.out.beside b9 (by omega)
                  replace HC : Hid (Sc3 B v0_2 (.slice s1 n1 c1) n1 (.slice s2 n2 c2) n2 (.slice s3 n3 c3) n3) := HC.out.beside b9 (by omega)
                  replace HS : Hid (Beside r w v0_2) := HS.out.trans b9
                  replace zB : B ≤ v0_2.heap.size := Nat.le_trans zB b9.2.2.2.1
                  replace HR : Hid (∃ q, Rd v0_2 r s n c q) := ⟨_, R9⟩
                  clear R0 R9 b9
                  refine hK.out _ _ (trivial) (fun hHeld => ?_)
                  clear hK KK
                  refine wpAnyH_ready (rs := [6]) (by kernel_rfl) (by simp) ?_
                  refine (AllReadyH.cons rfl (fun KK hK => ?_) AllReadyH.nil)
                  go_simp
                  obtain ⟨v0_3, hv_⟩ : ∃ z, z = v0_2.alloc (.cells #[.int .i64 x9] 2) := ⟨_, rfl⟩
                  rw [← hv_]
                  obtain ⟨lb, hlb⟩ : ∃ z, z = v0_2.heap.size := ⟨_, rfl⟩
                  have b_ : Below v0_2.heap.size v0_2 v0_3 := by rw [hv_]; exact below0 _ _
                  have HLB : Hid (Blk v0_3 lb [.int .i64 x9]) := by show Blk _ _ _; rw [hv_, hlb]; exact Blk.new v0_2 #[.int .i64 x9] _
                  replace H4 : Hid (Blk v0_3 g4 [.int .i64 0, .slice none 0 0, .slice none 0 0, .slice none 0 0]) := H4.out.below b_
                  replace H5 : Hid (Blk v0_3 g5 [.int .i64 mo, .slice s1 n1 c1, .slice s2 n2 c2, .slice s3 n3 c3]) := H5.out.below b_
                  replace HC : Hid (Sc3 B v0_3 (.slice s1 n1 c1) n1 (.slice s2 n2 c2) n2 (.slice s3 n3 c3) n3) := HC.out.below b_
                  replace HS : Hid (Beside r w v0_3) := HS.out.trans (Beside.of b_)
                  replace zB : B ≤ v0_3.heap.size := Nat.le_trans zB b_.size
                  replace HR : Hid (∃ q, Rd v0_3 r s n c q) := by obtain ⟨q_, R_⟩ := HR.out; exact ⟨q_, R_.below b_⟩
                  try rw [← hlb]
                  clear hv_ hlb b_
                  refine hK.out _ _ (trivial) (fun hHeld => ?_)
                  clear hK KK
                  refine wpAnyH_ready (rs := [7]) (by kernel_rfl) (by simp) ?_
                  refine (AllReadyH.cons rfl (fun KK hK => ?_) AllReadyH.nil)
                  refine wp_sc2 HC.out (.tmp 76) (.tmp 81) (by rfl) (by rfl) lb (by rfl) (HLB.out.2.2 0 _ rfl) (by omega) zB ?_
                  intro g9 cap9 v0_4 hc9 b9
                  replace HC : Hid (Sc3 B v0_4 (.slice s1 n1 c1) n1 (.slice (some ⟨g9, 0, none⟩) (n2 + 1) cap9) (n2 + 1) (.slice s3 n3 c3) n3) := hc9
                  replace H4 : Hid (Blk v0_4 g4 [.int .i64 0, .slice none 0 0, .slice none 0 0, .slice none 0 0]) := H4.out.belowB b9 (by omega)
                  replace H5 : Hid (Blk v0_4 g5 [.int .i64 mo, .slice s1 n1 c1, .slice s2 n2 c2, .slice s3 n3 c3]) := H5.out.belowB b9 (by omega)
                  replace HR : Hid (∃ q, Rd v0_4 r s n c q) := by obtain ⟨q_, R_⟩ := HR.out; exact ⟨q_, Rd.below' R_ (b9.mono (by omega))⟩
                  replace HS : Hid (Beside r w v0_4) := HS.out.onB (b9.mono (by omega))
                  replace zB : B ≤ v0_4.heap.size := Nat.le_trans zB b9.size
                  clear hc9 b9 HLB
                  go_simp
                  refine hK.out _ _ (trivial) (fun hHeld => ?_)
                  clear hK KK
                  refine wpAnyH_take (i := 8) (v := .pointer (some ⟨g5, 2, none⟩)) rfl (by kernel_rfl) (by kernel_rfl) (by kernel_rfl) (fun _ _ _ h => h) (Or.inl ⟨by kernel_rfl, ?_⟩) hHeld ?_
                  · intro w' hSw
                    first | (go_simp; done) | (go_simp; with_reducible rfl) | (go_simp; rw [IntKind.wrap_i64]; omega) | (go_simp; omega)
                  simp only [Act.put, List.setIfInBounds_toArray, List.set_cons_zero, List.set_cons_succ]
                  refine wpAnyH_ready (rs := [9]) (by kernel_rfl) (by simp) ?_
                  refine (AllReadyH.cons rfl (fun KK hK => ?_) AllReadyH.nil)
                  have u0 := H5.out.2.2 2 _ rfl
                  have f0 := H5.out.2.1 2
                  have uz := H5.out.1
                  have hst := store_slT
                  go_simp
                  obtain ⟨v0_5, hv_⟩ : ∃ z, z = v0_4.setCell ⟨g5, 2, none⟩ (.slice (some ⟨g9, 0, none⟩) (n2 + 1) cap9) := ⟨_, rfl⟩
                  rw [← hv_]
                  have b9 : Beside g5 v0_4 v0_5 := by rw [hv_]; exact Beside.setCell g5 _ 2 _
                  replace H5 : Hid (Blk v0_5 g5 [.int .i64 mo, .slice s1 n1 c1, .slice (some ⟨g9, 0, none⟩) (n2 + 1) cap9, .slice s3 n3 c3]) := by show Blk _ _ _; rw [hv_]; exact H5.out.set 2 _
                  replace H4 : Hid (Blk v0_5 g4 [.int .i64 0, .slice none 0 0, .slice none 0 0, .slice none 0 0]) := H4.out.beside b9 (by omega)
                  replace HC : Hid (Sc3 B v0_5 (.slice s1 n1 c1) n1 (.slice (some ⟨g9, 0, none⟩) (n2 + 1) cap9) (n2 + 1) (.slice s3 n3 c3) n3) := HC.out.beside b9 (by omega)
                  replace HR : Hid (∃ q, Rd v0_5 r s n c q) := by obtain ⟨q_, R_⟩ := HR.out; have zr_ := R_.1; exact ⟨q_, Rd.below' R_ (b9.below (by omega) (by omega))⟩
                  replace HS : Hid (Beside r w v0_5) := HS.out.onB (b9.below (by omega) HS.out.2.2.2.1)
                  replace zB : B ≤ v0_5.heap.size := Nat.le_trans zB b9.2.2.2.1
                  clear hv_ b9 u0 f0 uz hst
                  refine hK.out _ _ (trivial) (fun hHeld => ?_)
                  clear hK KK
                  refine wpAnyH_done (by kernel_rfl) ?_ _
                  clear hHeld
                  have u0 := H5.out.2.2 0 _ rfl
                  have t0 := H4.out.2.2 0 _ rfl
                  have f0 := H4.out.2.1 0
                  have u1 := H5.out.2.2 1 _ rfl
                  have t1 := H4.out.2.2 1 _ rfl
                  have f1 := H4.out.2.1 1
                  have u2 := H5.out.2.2 2 _ rfl
                  have t2 := H4.out.2.2 2 _ rfl
                  have f2 := H4.out.2.1 2
                  have u3 := H5.out.2.2 3 _ rfl
                  have t3 := H4.out.2.2 3 _ rfl
                  have f3 := H4.out.2.1 3
                  have uz := H5.out.1
                  have tz := H4.out.1
                  have hst := store_slT
                  have n45 : g4 ≠ g5 := by omega
                  obtain ⟨qz, Rz⟩ := HR.out
                  have zrz := Rz.1
                  go_upto_region 21 with fail
                  have hrow : ∀ W2, Beside g4 v0_5 W2 → ∃ q, Rd W2 r s n c q ∧ Beside r w W2 ∧ Sc3 w.heap.size W2 (.slice s1 n1 c1) n1 (.slice (some ⟨g9, 0, none⟩) (n2 + 1) cap9) (n2 + 1) (.slice s3 n3 c3) n3 := fun W2 hb => ⟨qz, Rd.below' Rz (hb.below (by omega) (by omega)), HS.out.onB (hb.below (by omega) HS.out.2.2.2.1), (HC.out.beside hb (by omega)).low (by omega)⟩
                  go_wp2
                  refine bodyPost_ret (v := .agg #[.int .i64 mo, .slice s1 n1 c1, .slice (some ⟨g9, 0, none⟩) (n2 + 1) cap9, .slice s3 n3 c3]) (by simp [results, Try.results44, go_sem, u0, u1, u2, u3, t0, t1, t2, t3, n45, n45.symm]) rfl ?_
                  obtain ⟨q9, e1, e2, e3⟩ := hrow _ (((Beside.setCell g4 _ 0 _).trans (Beside.setCell g4 _ 1 _)).trans ((Beside.setCell g4 _ 2 _).trans (Beside.setCell g4 _ 3 _)))
                  exact ⟨mo, s1, n1, c1, some ⟨g9, 0, none⟩, n2 + 1, cap9, s3, n3, c3, q9, rfl, by omega, by omega, by omega, e3, e1, e2⟩
                · obtain ⟨q0, R0⟩ := HR.out
                  go_simp
                  go_wp2_with (first | (go_at_call 74; refine (off_all 0 _ R0).mono ?_; rintro e v0_6 ⟨x9, p9, rfl, R9, b9⟩))
                  replace H4 : Hid (Blk v0_6 g4 [.int .i64 0, .slice none 0 0, .slice none 0 0, .slice none 0 0]) := H4.out.beside b9 (by omega)
                  replace H5 : Hid (Blk v0_6 g5 [.int .i64 mo, .slice s1 n1 c1, .slice s2 n2 c2, .slice s3 n3 c3]) := H5.out.beside b9 (by omega)
                  replace HC : Hid (Sc3 B v0_6 (.slice s1 n1 c1) n1 (.slice s2 n2 c2) n2 (.slice s3 n3 c3) n3) := HC.out.beside b9 (by omega)
                  replace HS : Hid (Beside r w v0_6) := HS.out.trans b9
                  replace zB : B ≤ v0_6.heap.size := Nat.le_trans zB b9.2.2.2.1
                  replace HR : Hid (∃ q, Rd v0_6 r s n c q) := ⟨_, R9⟩
                  clear R0 R9 b9
                  refine hK.out _ _ (trivial) (fun hHeld => ?_)
                  clear hK KK
                  refine wpAnyH_ready (rs := [1, 6]) (by kernel_rfl) (by simp) ?_
                  refine (AllReadyH.cons rfl (fun KK hK => ?_) (AllReadyH.cons rfl (fun KK hK => ?_) AllReadyH.nil))
                  · have c_ := H5.out.2.2 2 _ rfl
                    have z_ := H5.out.1
                    go_simp
                    clear c_ z_
                    refine hK.out _ _ (trivial) (fun hHeld => ?_)
                    clear hK KK
                    refine wpAnyH_ready (rs := [6]) (by kernel_rfl) (by simp) ?_
                    refine (AllReadyH.cons rfl (fun KK hK => ?_) AllReadyH.nil)
                    go_simp
                    obtain ⟨v0_8, hv_⟩ : ∃ z, z = v0_6.alloc (.cells #[.int .i64 x9] 2) := ⟨_, rfl⟩
                    rw [← hv_]
                    obtain ⟨lb, hlb⟩ : ∃ z, z = v0_6.heap.size := ⟨_, rfl⟩
                    have b_ : Below v0_6.heap.size v0_6 v0_8 := by rw [hv_]; exact below0 _ _
                    have HLB : Hid (Blk v0_8 lb [.int .i64 x9]) := by show Blk _ _ _; rw [hv_, hlb]; exact Blk.new v0_6 #[.int .i64 x9] _
                    replace H4 : Hid (Blk v0_8 g4 [.int .i64 0, .slice none 0 0, .slice none 0 0, .slice none 0 0]) := H4.out.below b_
                    replace H5 : Hid (Blk v0_8 g5 [.int .i64 mo, .slice s1 n1 c1, .slice s2 n2 c2, .slice s3 n3 c3]) := H5.out.below b_
                    replace HC : Hid (Sc3 B v0_8 (.slice s1 n1 c1) n1 (.slice s2 n2 c2) n2 (.slice s3 n3 c3) n3) := HC.out.below b_
                    replace HS : Hid (Beside r w v0_8) := HS.out.trans (Beside.of b_)
                    replace zB : B ≤ v0_8.heap.size := Nat.le_trans zB b_.size
                    replace HR : Hid (∃ q, Rd v0_8 r s n c q) := by obtain ⟨q_, R_⟩ := HR.out; exact ⟨q_, R_.below b_⟩
                    try rw [← hlb]
                    clear hv_ hlb b_
                    refine hK.out _ _ (trivial) (fun hHeld => ?_)
                    clear hK KK
                    refine wpAnyH_ready (rs := [7]) (by kernel_rfl) (by simp) ?_
                    refine (AllReadyH.cons rfl (fun KK hK => ?_) AllReadyH.nil)
                    refine wp_sc2 HC.out (.tmp 76) (.tmp 81) (by rfl) (by rfl) lb (by rfl) (HLB.out.2.2 0 _ rfl) (by omega) zB ?_
                    intro g9 cap9 v0_9 hc9 b9
                    replace HC : Hid (Sc3 B v0_9 (.slice s1 n1 c1) n1 (.slice (some ⟨g9, 0, none⟩) (n2 + 1) cap9) (n2 + 1) (.slice s3 n3 c3) n3) := hc9
                    replace H4 : Hid (Blk v0_9 g4 [.int .i64 0, .slice none 0 0, .slice none 0 0, .slice none 0 0]) := H4.out.belowB b9 (by omega)
                    replace H5 : Hid (Blk v0_9 g5 [.int .i64 mo, .slice s1 n1 c1, .slice s2 n2 c2, .slice s3 n3 c3]) := H5.out.belowB b9 (by omega)
                    replace HR : Hid (∃ q, Rd v0_9 r s n c q) := by obtain ⟨q_, R_⟩ := HR.out; exact ⟨q_, Rd.below' R_ (b9.mono (by omega))⟩
                    replace HS : Hid (Beside r w v0_9) := HS.out.onB (b9.mono (by omega))
                    replace zB : B ≤ v0_9.heap.size := Nat.le_trans zB b9.size
                    clear hc9 b9 HLB
                    go_simp
                    refine hK.out _ _ (trivial) (fun hHeld => ?_)
                    clear hK KK
                    refine wpAnyH_take (i := 8) (v := .pointer (some ⟨g5, 2, none⟩)) rfl (by kernel_rfl) (by kernel_rfl) (by kernel_rfl) (fun _ _ _ h => h) (Or.inl ⟨by kernel_rfl, ?_⟩) hHeld ?_
                    · intro w' hSw
                      first | (go_simp; done) | (go_simp; with_reducible rfl) | (go_simp; rw [IntKind.wrap_i64]; omega) | (go_simp; omega)
                    simp only [Act.put, List.setIfInBounds_toArray, List.set_cons_zero, List.set_cons_succ]
                    refine wpAnyH_ready (rs := [9]) (by kernel_rfl) (by simp) ?_
                    refine (AllReadyH.cons rfl (fun KK hK => ?_) AllReadyH.nil)
                    have u0 := H5.out.2.2 2 _ rfl
                    have f0 := H5.out.2.1 2
                    have uz := H5.out.1
                    have hst := store_slT
                    go_simp
                    obtain ⟨v0_10, hv_⟩ : ∃ z, z = v0_9.setCell ⟨g5, 2, none⟩ (.slice (some ⟨g9, 0, none⟩) (n2 + 1) cap9) := ⟨_, rfl⟩
                    rw [← hv_]
                    have b9 : Beside g5 v0_9 v0_10 := by rw [hv_]; exact Beside.setCell g5 _ 2 _
                    replace H5 : Hid (Blk v0_10 g5 [.int .i64 mo, .slice s1 n1 c1, .slice (some ⟨g9, 0, none⟩) (n2 + 1) cap9, .slice s3 n3 c3]) := by show Blk _ _ _; rw [hv_]; exact H5.out.set 2 _
                    replace H4 : Hid (Blk v0_10 g4 [.int .i64 0, .slice none 0 0, .slice none 0 0, .slice none 0 0]) := H4.out.beside b9 (by omega)
                    replace HC : Hid (Sc3 B v0_10 (.slice s1 n1 c1) n1 (.slice (some ⟨g9, 0, none⟩) (n2 + 1) cap9) (n2 + 1) (.slice s3 n3 c3) n3) := HC.out.beside b9 (by omega)
                    replace HR : Hid (∃ q, Rd v0_10 r s n c q) := by obtain ⟨q_, R_⟩ := HR.out; have zr_ := R_.1; exact ⟨q_, Rd.below' R_ (b9.below (by omega) (by omega))⟩
                    replace HS : Hid (Beside r w v0_10) := HS.out.onB (b9.below (by omega) HS.out.2.2.2.1)
                    replace zB : B ≤ v0_10.heap.size := Nat.le_trans zB b9.2.2.2.1
                    clear hv_ b9 u0 f0 uz hst
                    refine hK.out _ _ (trivial) (fun hHeld => ?_)
                    clear hK KK
                    refine wpAnyH_done (by kernel_rfl) ?_ _
                    clear hHeld
                    have u0 := H5.out.2.2 0 _ rfl
                    have t0 := H4.out.2.2 0 _ rfl
                    have f0 := H4.out.2.1 0
                    have u1 := H5.out.2.2 1 _ rfl
                    have t1 := H4.out.2.2 1 _ rfl
                    have f1 := H4.out.2.1 1
                    have u2 := H5.out.2.2 2 _ rfl
                    have t2 := H4.out.2.2 2 _ rfl
                    have f2 := H4.out.2.1 2
                    have u3 := H5.out.2.2 3 _ rfl
                    have t3 := H4.out.2.2 3 _ rfl
                    have f3 := H4.out.2.1 3
                    have uz := H5.out.1
                    have tz := H4.out.1
                    have hst := store_slT
                    have n45 : g4 ≠ g5 := by omega
                    obtain ⟨qz, Rz⟩ := HR.out
                    have zrz := Rz.1
                    go_upto_region 21 with fail
                    have hrow : ∀ W2, Beside g4 v0_10 W2 → ∃ q, Rd W2 r s n c q ∧ Beside r w W2 ∧ Sc3 w.heap.size W2 (.slice s1 n1 c1) n1 (.slice (some ⟨g9, 0, none⟩) (n2 + 1) cap9) (n2 + 1) (.slice s3 n3 c3) n3 := fun W2 hb => ⟨qz, Rd.below' Rz (hb.below (by omega) (by omega)), HS.out.onB (hb.below (by omega) HS.out.2.2.2.1), (HC.out.beside hb (by omega)).low (by omega)⟩
                    go_wp2
                    refine bodyPost_ret (v := .agg #[.int .i64 mo, .slice s1 n1 c1, .slice (some ⟨g9, 0, none⟩) (n2 + 1) cap9, .slice s3 n3 c3]) (by simp [results, Try.results44, go_sem, u0, u1, u2, u3, t0, t1, t2, t3, n45, n45.symm]) rfl ?_
                    obtain ⟨q9, e1, e2, e3⟩ := hrow _ (((Beside.setCell g4 _ 0 _).trans (Beside.setCell g4 _ 1 _)).trans ((Beside.setCell g4 _ 2 _).trans (Beside.setCell g4 _ 3 _)))
                    exact ⟨mo, s1, n1, c1, some ⟨g9, 0, none⟩, n2 + 1, cap9, s3, n3, c3, q9, rfl, by omega, by omega, by omega, e3, e1, e2⟩
                  · go_simp
                    obtain ⟨v0_11, hv_⟩ : ∃ z, z = v0_6.alloc (.cells #[.int .i64 x9] 2) := ⟨_, rfl⟩
                    rw [← hv_]
                    obtain ⟨lb, hlb⟩ : ∃ z, z = v0_6.heap.size := ⟨_, rfl⟩
                    have b_ : Below v0_6.heap.size v0_6 v0_11 := by rw [hv_]; exact below0 _ _
                    have HLB : Hid (Blk v0_11 lb [.int .i64 x9]) := by show Blk _ _ _; rw [hv_, hlb]; exact Blk.new v0_6 #[.int .i64 x9] _
                    replace H4 : Hid (Blk v0_11 g4 [.int .i64 0, .slice none 0 0, .slice none 0 0, .slice none 0 0]) := H4.out.below b_
                    replace H5 : Hid (Blk v0_11 g5 [.int .i64 mo, .slice s1 n1 c1, .slice s2 n2 c2, .slice s3 n3 c3]) := H5.out.below b_
                    replace HC : Hid (Sc3 B v0_11 (.slice s1 n1 c1) n1 (.slice s2 n2 c2) n2 (.slice s3 n3 c3) n3) := HC.out.below b_
                    replace HS : Hid (Beside r w v0_11) := HS.out.trans (Beside.of b_)
                    replace zB : B ≤ v0_11.heap.size := Nat.le_trans zB b_.size
                    replace HR : Hid (∃ q, Rd v0_11 r s n c q) := by obtain ⟨q_, R_⟩ := HR.out; exact ⟨q_, R_.below b_⟩
                    try rw [← hlb]
                    clear hv_ hlb b_
                    refine hK.out _ _ (trivial) (fun hHeld => ?_)
                    clear hK KK
                    refine wpAnyH_ready (rs := [1]) (by kernel_rfl) (by simp) ?_
                    refine (AllReadyH.cons rfl (fun KK hK => ?_) AllReadyH.nil)
                    have c_ := H5.out.2.2 2 _ rfl
                    have z_ := H5.out.1
                    go_simp
                    clear c_ z_
                    refine hK.out _ _ (trivial) (fun hHeld => ?_)
                    clear hK KK
                    refine wpAnyH_ready (rs := [7]) (by kernel_rfl) (by simp) ?_
                    refine (AllReadyH.cons rfl (fun KK hK => ?_) AllReadyH.nil)
                    refine wp_sc2 HC.out (.tmp 76) (.tmp 81) (by rfl) (by rfl) lb (by rfl) (HLB.out.2.2 0 _ rfl) (by omega) zB ?_
                    intro g9 cap9 v0_13 hc9 b9
                    replace HC : Hid (Sc3 B v0_13 (.slice s1 n1 c1) n1 (.slice (some ⟨g9, 0, none⟩) (n2 + 1) cap9) (n2 + 1) (.slice s3 n3 c3) n3) := hc9
                    replace H4 : Hid (Blk v0_13 g4 [.int .i64 0, .slice none 0 0, .slice none 0 0, .slice none 0 0]) := H4.out.belowB b9 (by omega)
                    replace H5 : Hid (Blk v0_13 g5 [.int .i64 mo, .slice s1 n1 c1, .slice s2 n2 c2, .slice s3 n3 c3]) := H5.out.belowB b9 (by omega)
                    replace HR : Hid (∃ q, Rd v0_13 r s n c q) := by obtain ⟨q_, R_⟩ := HR.out; exact ⟨q_, Rd.below' R_ (b9.mono (by omega))⟩
                    replace HS : Hid (Beside r w v0_13) := HS.out.onB (b9.mono (by omega))
                    replace zB : B ≤ v0_13.heap.size := Nat.le_trans zB b9.size
                    clear hc9 b9 HLB
                    go_simp
                    refine hK.out _ _ (trivial) (fun hHeld => ?_)
                    clear hK KK
                    refine wpAnyH_take (i := 8) (v := .pointer (some ⟨g5, 2, none⟩)) rfl (by kernel_rfl) (by kernel_rfl) (by kernel_rfl) (fun _ _ _ h => h) (Or.inl ⟨by kernel_rfl, ?_⟩) hHeld ?_
                    · intro w' hSw
                      first | (go_simp; done) | (go_simp; with_reducible rfl) | (go_simp; rw [IntKind.wrap_i64]; omega) | (go_simp; omega)
                    simp only [Act.put, List.setIfInBounds_toArray, List.set_cons_zero, List.set_cons_succ]
                    refine wpAnyH_ready (rs := [9]) (by kernel_rfl) (by simp) ?_
                    refine (AllReadyH.cons rfl (fun KK hK => ?_) AllReadyH.nil)
                    have u0 := H5.out.2.2 2 _ rfl
                    have f0 := H5.out.2.1 2
                    have uz := H5.out.1
                    have hst := store_slT
                    go_simp
                    obtain ⟨v0_14, hv_⟩ : ∃ z, z = v0_13.setCell ⟨g5, 2, none⟩ (.slice (some ⟨g9, 0, none⟩) (n2 + 1) cap9) := ⟨_, rfl⟩
                    rw [← hv_]
                    have b9 : Beside g5 v0_13 v0_14 := by rw [hv_]; exact Beside.setCell g5 _ 2 _
                    replace H5 : Hid (Blk v0_14 g5 [.int .i64 mo, .slice s1 n1 c1, .slice (some ⟨g9, 0, none⟩) (n2 + 1) cap9, .slice s3 n3 c3]) := by show Blk _ _ _; rw [hv_]; exact H5.out.set 2 _
                    replace H4 : Hid (Blk v0_14 g4 [.int .i64 0, .slice none 0 0, .slice none 0 0, .slice none 0 0]) := H4.out.beside b9 (by omega)
                    replace HC : Hid (Sc3 B v0_14 (.slice s1 n1 c1) n1 (.slice (some ⟨g9, 0, none⟩) (n2 + 1) cap9) (n2 + 1) (.slice s3 n3 c3) n3) := HC.out.beside b9 (by omega)
                    replace HR : Hid (∃ q, Rd v0_14 r s n c q) := by obtain ⟨q_, R_⟩ := HR.out; have zr_ := R_.1; exact ⟨q_, Rd.below' R_ (b9.below (by omega) (by omega))⟩
                    replace HS : Hid (Beside r w v0_14) := HS.out.onB (b9.below (by omega) HS.out.2.2.2.1)
                    replace zB : B ≤ v0_14.heap.size := Nat.le_trans zB b9.2.2.2.1
                    clear hv_ b9 u0 f0 uz hst
                    refine hK.out _ _ (trivial) (fun hHeld => ?_)
                    clear hK KK
                    refine wpAnyH_done (by kernel_rfl) ?_ _
                    clear hHeld
                    have u0 := H5.out.2.2 0 _ rfl
                    have t0 := H4.out.2.2 0 _ rfl
                    have f0 := H4.out.2.1 0
                    have u1 := H5.out.2.2 1 _ rfl
                    have t1 := H4.out.2.2 1 _ rfl
                    have f1 := H4.out.2.1 1
                    have u2 := H5.out.2.2 2 _ rfl
                    have t2 := H4.out.2.2 2 _ rfl
                    have f2 := H4.out.2.1 2
                    have u3 := H5.out.2.2 3 _ rfl
                    have t3 := H4.out.2.2 3 _ rfl
                    have f3 := H4.out.2.1 3
                    have uz := H5.out.1
                    have tz := H4.out.1
                    have hst := store_slT
                    have n45 : g4 ≠ g5 := by omega
                    obtain ⟨qz, Rz⟩ := HR.out
                    have zrz := Rz.1
                    go_upto_region 21 with fail
                    have hrow : ∀ W2, Beside g4 v0_14 W2 → ∃ q, Rd W2 r s n c q ∧ Beside r w W2 ∧ Sc3 w.heap.size W2 (.slice s1 n1 c1) n1 (.slice (some ⟨g9, 0, none⟩) (n2 + 1) cap9) (n2 + 1) (.slice s3 n3 c3) n3 := fun W2 hb => ⟨qz, Rd.below' Rz (hb.below (by omega) (by omega)), HS.out.onB (hb.below (by omega) HS.out.2.2.2.1), (HC.out.beside hb (by omega)).low (by omega)⟩
                    go_wp2
                    refine bodyPost_ret (v := .agg #[.int .i64 mo, .slice s1 n1 c1, .slice (some ⟨g9, 0, none⟩) (n2 + 1) cap9, .slice s3 n3 c3]) (by simp [results, Try.results44, go_sem, u0, u1, u2, u3, t0, t1, t2, t3, n45, n45.symm]) rfl ?_
                    obtain ⟨q9, e1, e2, e3⟩ := hrow _ (((Beside.setCell g4 _ 0 _).trans (Beside.setCell g4 _ 1 _)).trans ((Beside.setCell g4 _ 2 _).trans (Beside.setCell g4 _ 3 _)))
                    exact ⟨mo, s1, n1, c1, some ⟨g9, 0, none⟩, n2 + 1, cap9, s3, n3, c3, q9, rfl, by omega, by omega, by omega, e3, e1, e2⟩
              case neg =>
                have f2_ : (kk == 2) = false := beq_false_of_ne e2
                by_cases e3 : kk = 3
                case pos =>
                  subst e3
                  clear f0_ f1_ f2_ e0 e1 e2
                  go_upto_region 20 with fail
                  refine wp_region_held_drew (S := fun w' => True) (by kernel_rfl) ?_ (fun hHeld => ?_)
                  · trivial
                  obtain ⟨v0, hv0⟩ : ∃ z, z = w8.drew := ⟨_, rfl⟩
                  try rw [← hv0] at hHeld
                  rw [← hv0]
                  have bv0 : Below w8.heap.size w8 v0 := by rw [hv0]; exact Below.drew (Below.refl _ _)
                  clear hv0
                  replace H4 : Hid (Blk v0 g4 [.int .i64 0, .slice none 0 0, .slice none 0 0, .slice none 0 0]) := H4.out.below bv0
                  replace H5 : Hid (Blk v0 g5 [.int .i64 mo, .slice s1 n1 c1, .slice s2 n2 c2, .slice s3 n3 c3]) := H5.out.below bv0
                  replace HC : Hid (Sc3 B v0 (.slice s1 n1 c1) n1 (.slice s2 n2 c2) n2 (.slice s3 n3 c3) n3) := HC.out.below bv0
                  replace HS : Hid (Beside r w v0) := HS.out.trans (Beside.of bv0)
                  replace zB : B ≤ v0.heap.size := Nat.le_trans zB bv0.size
                  replace HR : Hid (∃ q, Rd v0 r s n c q) := by obtain ⟨q_, R_⟩ := HR.out; exact ⟨q_, R_.below bv0⟩
                  clear bv0
                  refine wpAnyH_take (i := 0) (v := .pointer (some ⟨g5, 3, none⟩)) rfl (by kernel_rfl) (by kernel_rfl) (by kernel_rfl) (fun _ _ _ h => h) (Or.inl ⟨by kernel_rfl, ?_⟩) hHeld ?_
                  · intro w' hSw
                    first | (go_simp; done) | (go_simp; with_reducible rfl) | (go_simp; rw [IntKind.wrap_i64]; omega) | (go_simp; omega)
                  simp only [Act.put, List.setIfInBounds_toArray, List.set_cons_zero, List.set_cons_succ]
                  refine wpAnyH_take (i := 2) (v := .pointer (some ⟨r, 0, none⟩)) rfl (by kernel_rfl) (by kernel_rfl) (by kernel_rfl) (fun _ _ _ h => h) (Or.inl ⟨by kernel_rfl, ?_⟩) hHeld ?_
                  · intro w' hSw
                    first | (go_simp; done) | (go_simp; with_reducible rfl) | (go_simp; rw [IntKind.wrap_i64]; omega) | (go_simp; omega)
                  simp only [Act.put, List.setIfInBounds_toArray, List.set_cons_zero, List.set_cons_succ]
                  refine wpAnyH_ready (rs := [1, 3]) (by kernel_rfl) (by simp) ?_
                  refine (AllReadyH.cons rfl (fun KK hK => ?_) (AllReadyH.cons rfl (fun KK hK => ?_) AllReadyH.nil))
                  · have c_ := H5.out.2.2 3 _ rfl
                    have z_ := H5.out.1
                    go_simp
                    clear c_ z_
                    refine hK.out _ _ (trivial) (fun hHeld => ?_)
                    clear hK KK
                    refine wpAnyH_ready (rs := [3]) (by kernel_rfl) (by simp) ?_
                    refine (AllReadyH.cons rfl (fun KK hK => ?_) AllReadyH.nil)
                    obtain ⟨q0, R0⟩ := HR.out
                    go_simp
                    go_wp2_with (first | (go_at_call 74; refine (off_all 1 1000 R0).mono ?_; rintro e v0_2 ⟨x9, p9, rfl, R9, b9⟩))
                    replace H4 : Hid (Blk v0_2 g4 [.int .i64 0, .slice none 0 0, .slice none 0 0, .slice none 0 0]) := H4.out.beside b9 (by omega)
                    replace H5 : Hid (Blk v0_2 g5 [.int .i64 mo, .slice s1 n1 c1, .slice s2 n2 c2, .slice s3 n3 c3]) := H5.out.beside b9 (by omega)
                    replace HC : Hid (Sc3 B v0_2 (.slice s1 n1 c1) n1 (.slice s2 n2 c2) n2 (.slice s3 n3 c3) n3) := HC.out.beside b9 (by omega)
                    replace HS : Hid (Beside r w v0_2) := HS.out.trans b9
                    replace zB : B ≤ v0_2.heap.size := Nat.le_trans zB b9.2.2.2.1
                    replace HR : Hid (∃ q, Rd v0_2 r s n c q) := ⟨_, R9⟩
                    clear R0 R9 b9
                    refine hK.out _ _ (trivial) (fun hHeld => ?_)
                    clear hK KK
                    refine wpAnyH_take (i := 4) (v := .agg #[.int .i64 0, .int .i64 x9]) rfl (by kernel_rfl) (by kernel_rfl) (by kernel_rfl) (fun _ _ _ h => h) (Or.inl ⟨by kernel_rfl, ?_⟩) hHeld ?_
                    · intro w' hSw
                      first | (go_simp; done) | (go_simp; with_reducible rfl) | (go_simp; rw [IntKind.wrap_i64]; omega) | (go_simp; omega)
                    simp only [Act.put, List.setIfInBounds_toArray, List.set_cons_zero, List.set_cons_succ]
                    refine wpAnyH_ready (rs := [5]) (by kernel_rfl) (by simp) ?_
                    refine (AllReadyH.cons rfl (fun KK hK => ?_) AllReadyH.nil)
                    go_simp
                    obtain ⟨v0_3, hv_⟩ : ∃ z, z = v0_2.alloc (.cells #[.int .i64 0, .int .i64 x9] 94) := ⟨_, rfl⟩
                    rw [← hv_]
                    obtain ⟨lb, hlb⟩ : ∃ z, z = v0_2.heap.size := ⟨_, rfl⟩
                    have b_ : Below v0_2.heap.size v0_2 v0_3 := by rw [hv_]; exact below0 _ _
                    have HLB : Hid (Blk v0_3 lb [.int .i64 0, .int .i64 x9]) := by show Blk _ _ _; rw [hv_, hlb]; exact Blk.new v0_2 #[.int .i64 0, .int .i64 x9] _
                    replace H4 : Hid (Blk v0_3 g4 [.int .i64 0, .slice none 0 0, .slice none 0 0, .slice none 0 0]) := H4.out.below b_
                    replace H5 : Hid (Blk v0_3 g5 [.int .i64 mo, .slice s1 n1 c1, .slice s2 n2 c2, .slice s3 n3 c3]) := H5.out.below b_
                    replace HC : Hid (Sc3 B v0_3 (.slice s1 n1 c1) n1 (.slice s2 n2 c2) n2 (.slice s3 n3 c3) n3) := HC.out.below b_
                    replace HS : Hid (Beside r w v0_3) := HS.out.trans (Beside.of b_)
                    replace zB : B ≤ v0_3.heap.size := Nat.le_trans zB b_.size
                    replace HR : Hid (∃ q, Rd v0_3 r s n c q) := by obtain ⟨q_, R_⟩ := HR.out; exact ⟨q_, R_.below b_⟩
                    try rw [← hlb]
                    clear hv_ hlb b_
                    refine hK.out _ _ (trivial) (fun hHeld => ?_)
                    clear hK KK
                    refine wpAnyH_ready (rs := [6]) (by kernel_rfl) (by simp) ?_
                    refine (AllReadyH.cons rfl (fun KK hK => ?_) AllReadyH.nil)
                    refine wp_sc3 HC.out (.tmp 87) (.tmp 91) (by rfl) (by rfl) lb (by rfl) (HLB.out.2.2 0 _ rfl) (HLB.out.2.2 1 _ rfl) (by omega) zB ?_
                    intro g9 cap9 v0_4 hc9 b9
                    replace HC : Hid (Sc3 B v0_4 (.slice s1 n1 c1) n1 (.slice s2 n2 c2) n2 (.slice (some ⟨g9, 0, none⟩) (n3 + 1) cap9) (n3 + 1)) := hc9
                    replace H4 : Hid (Blk v0_4 g4 [.int .i64 0, .slice none 0 0, .slice none 0 0, .slice none 0 0]) := H4.out.belowB b9 (by omega)
                    replace H5 : Hid (Blk v0_4 g5 [.int .i64 mo, .slice s1 n1 c1, .slice s2 n2 c2, .slice s3 n3 c3]) := H5.out.belowB b9 (by omega)
                    replace HR : Hid (∃ q, Rd v0_4 r s n c q) := by obtain ⟨q_, R_⟩ := HR.out; exact ⟨q_, Rd.below' R_ (b9.mono (by omega))⟩
                    replace HS : Hid (Beside r w v0_4) := HS.out.onB (b9.mono (by omega))
                    replace zB : B ≤ v0_4.heap.size := Nat.le_trans zB b9.size
                    clear hc9 b9 HLB
                    go_simp
                    refine hK.out _ _ (trivial) (fun hHeld => ?_)
                    clear hK KK
                    refine wpAnyH_take (i := 7) (v := .pointer (some ⟨g5, 3, none⟩)) rfl (by kernel_rfl) (by kernel_rfl) (by kernel_rfl) (fun _ _ _ h => h) (Or.inl ⟨by kernel_rfl, ?_⟩) hHeld ?_
                    · intro w' hSw
                      first | (go_simp; done) | (go_simp; with_reducible rfl) | (go_simp; rw [IntKind.wrap_i64]; omega) | (go_simp; omega)
                    simp only [Act.put, List.setIfInBounds_toArray, List.set_cons_zero, List.set_cons_succ]
                    refine wpAnyH_ready (rs := [8]) (by kernel_rfl) (by simp) ?_
                    refine (AllReadyH.cons rfl (fun KK hK => ?_) AllReadyH.nil)
                    have u0 := H5.out.2.2 3 _ rfl
                    have f0 := H5.out.2.1 3
                    have uz := H5.out.1
                    have hst := store_slT
                    go_simp
                    obtain ⟨v0_5, hv_⟩ : ∃ z, z = v0_4.setCell ⟨g5, 3, none⟩ (.slice (some ⟨g9, 0, none⟩) (n3 + 1) cap9) := ⟨_, rfl⟩
                    rw [← hv_]
                    have b9 : Beside g5 v0_4 v0_5 := by rw [hv_]; exact Beside.setCell g5 _ 3 _
                    replace H5 : Hid (Blk v0_5 g5 [.int .i64 mo, .slice s1 n1 c1, .slice s2 n2 c2, .slice (some ⟨g9, 0, none⟩) (n3 + 1) cap9]) := by show Blk _ _ _; rw [hv_]; exact H5.out.set 3 _
                    replace H4 : Hid (Blk v0_5 g4 [.int .i64 0, .slice none 0 0, .slice none 0 0, .slice none 0 0]) := H4.out.beside b9 (by omega)
                    replace HC : Hid (Sc3 B v0_5 (.slice s1 n1 c1) n1 (.slice s2 n2 c2) n2 (.slice (some ⟨g9, 0, none⟩) (n3 + 1) cap9) (n3 + 1)) := HC.out.beside b9 (by omega)
                    replace HR : Hid (∃ q, Rd v0_5 r s n c q) := by obtain ⟨q_, R_⟩ := HR.out; have zr_ := R_.1; exact ⟨q_, Rd.below' R_ (b9.below (by omega) (by omega))⟩
                    replace HS : Hid (Beside r w v0_5) := HS.out.onB (b9.below (by omega) HS.out.2.2.2.1)
                    replace zB : B ≤ v0_5.heap.size := Nat.le_trans zB b9.2.2.2.1
                    clear hv_ b9 u0 f0 uz hst
                    refine hK.out _ _ (trivial) (fun hHeld => ?_)
                    clear hK KK
                    refine wpAnyH_done (by kernel_rfl) ?_ _
                    clear hHeld
                    have u0 := H5.out.2.2 0 _ rfl
                    have t0 := H4.out.2.2 0 _ rfl
                    have f0 := H4.out.2.1 0
                    have u1 := H5.out.2.2 1 _ rfl
                    have t1 := H4.out.2.2 1 _ rfl
                    have f1 := H4.out.2.1 1
                    have u2 := H5.out.2.2 2 _ rfl
                    have t2 := H4.out.2.2 2 _ rfl
                    have f2 := H4.out.2.1 2
                    have u3 := H5.out.2.2 3 _ rfl
                    have t3 := H4.out.2.2 3 _ rfl
                    have f3 := H4.out.2.1 3
                    have uz := H5.out.1
                    have tz := H4.out.1
                    have hst := store_slT
                    have n45 : g4 ≠ g5 := by omega
                    obtain ⟨qz, Rz⟩ := HR.out
                    have zrz := Rz.1
                    go_upto_region 21 with fail
                    have hrow : ∀ W2, Beside g4 v0_5 W2 → ∃ q, Rd W2 r s n c q ∧ Beside r w W2 ∧ Sc3 w.heap.size W2 (.slice s1 n1 c1) n1 (.slice s2 n2 c2) n2 (.slice (some ⟨g9, 0, none⟩) (n3 + 1) cap9) (n3 + 1) := fun W2 hb => ⟨qz, Rd.below' Rz (hb.below (by omega) (by omega)), HS.out.onB (hb.below (by omega) HS.out.2.2.2.1), (HC.out.beside hb (by omega)).low (by omega)⟩
                    go_wp2
                    refine bodyPost_ret (v := .agg #[.int .i64 mo, .slice s1 n1 c1, .slice s2 n2 c2, .slice (some ⟨g9, 0, none⟩) (n3 + 1) cap9]) (by simp [results, Try.results44, go_sem, u0, u1, u2, u3, t0, t1, t2, t3, n45, n45.symm]) rfl ?_
                    obtain ⟨q9, e1, e2, e3⟩ := hrow _ (((Beside.setCell g4 _ 0 _).trans (Beside.setCell g4 _ 1 _)).trans ((Beside.setCell g4 _ 2 _).trans (Beside.setCell g4 _ 3 _)))
                    exact ⟨mo, s1, n1, c1, s2, n2, c2, some ⟨g9, 0, none⟩, n3 + 1, cap9, q9, rfl, by omega, by omega, by omega, e3, e1, e2⟩
                  · obtain ⟨q0, R0⟩ := HR.out
                    go_simp
                    go_wp2_with (first | (go_at_call 74; refine (off_all 1 1000 R0).mono ?_; rintro e v0_6 ⟨x9, p9, rfl, R9, b9⟩))
                    replace H4 : Hid (Blk v0_6 g4 [.int .i64 0, .slice none 0 0, .slice none 0 0, .slice none 0 0]) := H4.out.beside b9 (by omega)
                    replace H5 : Hid (Blk v0_6 g5 [.int .i64 mo, .slice s1 n1 c1, .slice s2 n2 c2, .slice s3 n3 c3]) := H5.out.beside b9 (by omega)
                    replace HC : Hid (Sc3 B v0_6 (.slice s1 n1 c1) n1 (.slice s2 n2 c2) n2 (.slice s3 n3 c3) n3) := HC.out.beside b9 (by omega)
                    replace HS : Hid (Beside r w v0_6) := HS.out.trans b9
                    replace zB : B ≤ v0_6.heap.size := Nat.le_trans zB b9.2.2.2.1
                    replace HR : Hid (∃ q, Rd v0_6 r s n c q) := ⟨_, R9⟩
                    clear R0 R9 b9
                    refine hK.out _ _ (trivial) (fun hHeld => ?_)
                    clear hK KK
                    refine wpAnyH_take (i := 4) (v := .agg #[.int .i64 0, .int .i64 x9]) rfl (by kernel_rfl) (by kernel_rfl) (by kernel_rfl) (fun _ _ _ h => h) (Or.inl ⟨by kernel_rfl, ?_⟩) hHeld ?_
                    · intro w' hSw
                      first | (go_simp; done) | (go_simp; with_reducible rfl) | (go_simp; rw [IntKind.wrap_i64]; omega) | (go_simp; omega)
                    simp only [Act.put, List.setIfInBounds_toArray, List.set_cons_zero, List.set_cons_succ]
                    refine wpAnyH_ready (rs := [1, 5]) (by kernel_rfl) (by simp) ?_
                    refine (AllReadyH.cons rfl (fun KK hK => ?_) (AllReadyH.cons rfl (fun KK hK => ?_) AllReadyH.nil))
                    · have c_ := H5.out.2.2 3 _ rfl
                      have z_ := H5.out.1
                      go_simp
                      clear c_ z_
                      refine hK.out _ _ (trivial) (fun hHeld => ?_)
                      clear hK KK
                      refine wpAnyH_ready (rs := [5]) (by kernel_rfl) (by simp) ?_
                      refine (AllReadyH.cons rfl (fun KK hK => ?_) AllReadyH.nil)
                      go_simp
                      obtain ⟨v0_8, hv_⟩ : ∃ z, z = v0_6.alloc (.cells #[.int .i64 0, .int .i64 x9] 94) := ⟨_, rfl⟩
                      rw [← hv_]
                      obtain ⟨lb, hlb⟩ : ∃ z, z = v0_6.heap.size := ⟨_, rfl⟩
                      have b_ : Below v0_6.heap.size v0_6 v0_8 := by rw [hv_]; exact below0 _ _
                      have HLB : Hid (Blk v0_8 lb [.int .i64 0, .int .i64 x9]) := by show Blk _ _ _; rw [hv_, hlb]; exact Blk.new v0_6 #[.int .i64 0, .int .i64 x9] _
                      replace H4 : Hid (Blk v0_8 g4 [.int .i64 0, .slice none 0 0, .slice none 0 0, .slice none 0 0]) := H4.out.below b_
                      replace H5 : Hid (Blk v0_8 g5 [.int .i64 mo, .slice s1 n1 c1, .slice s2 n2 c2, .slice s3 n3 c3]) := H5.out.below b_
                      replace HC : Hid (Sc3 B v0_8 (.slice s1 n1 c1) n1 (.slice s2 n2 c2) n2 (.slice s3 n3 c3) n3) := HC.out.below b_
                      replace HS : Hid (Beside r w v0_8) := HS.out.trans (Beside.of b_)
                      replace zB : B ≤ v0_8.heap.size := Nat.le_trans zB b_.size
                      replace HR : Hid (∃ q, Rd v0_8 r s n c q) := by obtain ⟨q_, R_⟩ := HR.out; exact ⟨q_, R_.below b_⟩
                      try rw [← hlb]
                      clear hv_ hlb b_
                      refine hK.out _ _ (trivial) (fun hHeld => ?_)
                      clear hK KK
                      refine wpAnyH_ready (rs := [6]) (by kernel_rfl) (by simp) ?_
                      refine (AllReadyH.cons rfl (fun KK hK => ?_) AllReadyH.nil)
                      refine wp_sc3 HC.out (.tmp 87) (.tmp 91) (by rfl) (by rfl) lb (by rfl) (HLB.out.2.2 0 _ rfl) (HLB.out.2.2 1 _ rfl) (by omega) zB ?_
                      intro g9 cap9 v0_9 hc9 b9
                      replace HC : Hid (Sc3 B v0_9 (.slice s1 n1 c1) n1 (.slice s2 n2 c2) n2 (.slice (some ⟨g9, 0, none⟩) (n3 + 1) cap9) (n3 + 1)) := hc9
                      replace H4 : Hid (Blk v0_9 g4 [.int .i64 0, .slice none 0 0, .slice none 0 0, .slice none 0 0]) := H4.out.belowB b9 (by omega)
                      replace H5 : Hid (Blk v0_9 g5 [.int .i64 mo, .slice s1 n1 c1, .slice s2 n2 c2, .slice s3 n3 c3]) := H5.out.belowB b9 (by omega)
                      replace HR : Hid (∃ q, Rd v0_9 r s n c q) := by obtain ⟨q_, R_⟩ := HR.out; exact ⟨q_, Rd.below' R_ (b9.mono (by omega))⟩
                      replace HS : Hid (Beside r w v0_9) := HS.out.onB (b9.mono (by omega))
                      replace zB : B ≤ v0_9.heap.size := Nat.le_trans zB b9.size
                      clear hc9 b9 HLB
                      go_simp
                      refine hK.out _ _ (trivial) (fun hHeld => ?_)
                      clear hK KK
                      refine wpAnyH_take (i := 7) (v := .pointer (some ⟨g5, 3, none⟩)) rfl (by kernel_rfl) (by kernel_rfl) (by kernel_rfl) (fun _ _ _ h => h) (Or.inl ⟨by kernel_rfl, ?_⟩) hHeld ?_
                      · intro w' hSw
                        first | (go_simp; done) | (go_simp; with_reducible rfl) | (go_simp; rw [IntKind.wrap_i64]; omega) | (go_simp; omega)
                      simp only [Act.put, List.setIfInBounds_toArray, List.set_cons_zero, List.set_cons_succ]
                      refine wpAnyH_ready (rs := [8]) (by kernel_rfl) (by simp) ?_
                      refine (AllReadyH.cons rfl (fun KK hK => ?_) AllReadyH.nil)
                      have u0 := H5.out.2.2 3 _ rfl
                      have f0 := H5.out.2.1 3
                      have uz := H5.out.1
                      have hst := store_slT
                      go_simp
                      obtain ⟨v0_10, hv_⟩ : ∃ z, z = v0_9.setCell ⟨g5, 3, none⟩ (.slice (some ⟨g9, 0, none⟩) (n3 + 1) cap9) := ⟨_, rfl⟩
                      rw [← hv_]
                      have b9 : Beside g5 v0_9 v0_10 := by rw [hv_]; exact Beside.setCell g5 _ 3 _
                      replace H5 : Hid (Blk v0_10 g5 [.int .i64 mo, .slice s1 n1 c1, .slice s2 n2 c2, .slice (some ⟨g9, 0, none⟩) (n3 + 1) cap9]) := by show Blk _ _ _; rw [hv_]; exact H5.out.set 3 _
                      replace H4 : Hid (Blk v0_10 g4 [.int .i64 0, .slice none 0 0, .slice none 0 0, .slice none 0 0]) := H4.out.beside b9 (by omega)
                      replace HC : Hid (Sc3 B v0_10 (.slice s1 n1 c1) n1 (.slice s2 n2 c2) n2 (.slice (some ⟨g9, 0, none⟩) (n3 + 1) cap9) (n3 + 1)) := HC.out.beside b9 (by omega)
                      replace HR : Hid (∃ q, Rd v0_10 r s n c q) := by obtain ⟨q_, R_⟩ := HR.out; have zr_ := R_.1; exact ⟨q_, Rd.below' R_ (b9.below (by omega) (by omega))⟩
                      replace HS : Hid (Beside r w v0_10) := HS.out.onB (b9.below (by omega) HS.out.2.2.2.1)
                      replace zB : B ≤ v0_10.heap.size := Nat.le_trans zB b9.2.2.2.1
                      clear hv_ b9 u0 f0 uz hst
                      refine hK.out _ _ (trivial) (fun hHeld => ?_)
                      clear hK KK
                      refine wpAnyH_done (by kernel_rfl) ?_ _
                      clear hHeld
                      have u0 := H5.out.2.2 0 _ rfl
                      have t0 := H4.out.2.2 0 _ rfl
                      have f0 := H4.out.2.1 0
                      have u1 := H5.out.2.2 1 _ rfl
                      have t1 := H4.out.2.2 1 _ rfl
                      have f1 := H4.out.2.1 1
                      have u2 := H5.out.2.2 2 _ rfl
                      have t2 := H4.out.2.2 2 _ rfl
                      have f2 := H4.out.2.1 2
                      have u3 := H5.out.2.2 3 _ rfl
                      have t3 := H4.out.2.2 3 _ rfl
                      have f3 := H4.out.2.1 3
                      have uz := H5.out.1
                      have tz := H4.out.1
                      have hst := store_slT
                      have n45 : g4 ≠ g5 := by omega
                      obtain ⟨qz, Rz⟩ := HR.out
                      have zrz := Rz.1
                      go_upto_region 21 with fail
                      have hrow : ∀ W2, Beside g4 v0_10 W2 → ∃ q, Rd W2 r s n c q ∧ Beside r w W2 ∧ Sc3 w.heap.size W2 (.slice s1 n1 c1) n1 (.slice s2 n2 c2) n2 (.slice (some ⟨g9, 0, none⟩) (n3 + 1) cap9) (n3 + 1) := fun W2 hb => ⟨qz, Rd.below' Rz (hb.below (by omega) (by omega)), HS.out.onB (hb.below (by omega) HS.out.2.2.2.1), (HC.out.beside hb (by omega)).low (by omega)⟩
                      go_wp2
                      refine bodyPost_ret (v := .agg #[.int .i64 mo, .slice s1 n1 c1, .slice s2 n2 c2, .slice (some ⟨g9, 0, none⟩) (n3 + 1) cap9]) (by simp [results, Try.results44, go_sem, u0, u1, u2, u3, t0, t1, t2, t3, n45, n45.symm]) rfl ?_
                      obtain ⟨q9, e1, e2, e3⟩ := hrow _ (((Beside.setCell g4 _ 0 _).trans (Beside.setCell g4 _ 1 _)).trans ((Beside.setCell g4 _ 2 _).trans (Beside.setCell g4 _ 3 _)))
                      exact ⟨mo, s1, n1, c1, s2, n2, c2, some ⟨g9, 0, none⟩, n3 + 1, cap9, q9, rfl, by omega, by omega, by omega, e3, e1, e2⟩
                    · go_simp
                      obtain ⟨v0_11, hv_⟩ : ∃ z, z = v0_6.alloc (.cells #[.int .i64 0, .int .i64 x9] 94) := ⟨_, rfl⟩
                      rw [← hv_]
                      obtain ⟨lb, hlb⟩ : ∃ z, z = v0_6.heap.size := ⟨_, rfl⟩
                      have b_ : Below v0_6.heap.size v0_6 v0_11 := by rw [hv_]; exact below0 _ _
                      have HLB : Hid (Blk v0_11 lb [.int .i64 0, .int .i64 x9]) := by show Blk _ _ _; rw [hv_, hlb]; exact Blk.new v0_6 #[.int .i64 0, .int .i64 x9] _
                      replace H4 : Hid (Blk v0_11 g4 [.int .i64 0, .slice none 0 0, .slice none 0 0, .slice none 0 0]) := H4.out.below b_
                      replace H5 : Hid (Blk v0_11 g5 [.int .i64 mo, .slice s1 n1 c1, .slice s2 n2 c2, .slice s3 n3 c3]) := H5.out.below b_
                      replace HC : Hid (Sc3 B v0_11 (.slice s1 n1 c1) n1 (.slice s2 n2 c2) n2 (.slice s3 n3 c3) n3) := HC.out.below b_
                      replace HS : Hid (Beside r w v0_11) := HS.out.trans (Beside.of b_)
                      replace zB : B ≤ v0_11.heap.size := Nat.le_trans zB b_.size
                      replace HR : Hid (∃ q, Rd v0_11 r s n c q) := by obtain ⟨q_, R_⟩ := HR.out; exact ⟨q_, R_.below b_⟩
                      try rw [← hlb]
                      clear hv_ hlb b_
                      refine hK.out _ _ (trivial) (fun hHeld => ?_)
                      clear hK KK
                      refine wpAnyH_ready (rs := [1]) (by kernel_rfl) (by simp) ?_
                      refine (AllReadyH.cons rfl (fun KK hK => ?_) AllReadyH.nil)
                      have c_ := H5.out.2.2 3 _ rfl
                      have z_ := H5.out.1
                      go_simp
                      clear c_ z_
                      refine hK.out _ _ (trivial) (fun hHeld => ?_)
                      clear hK KK
                      refine wpAnyH_ready (rs := [6]) (by kernel_rfl) (by simp) ?_
                      refine (AllReadyH.cons rfl (fun KK hK => ?_) AllReadyH.nil)
                      refine wp_sc3 HC.out (.tmp 87) (.tmp 91) (by rfl) (by rfl) lb (by rfl) (HLB.out.2.2 0 _ rfl) (HLB.out.2.2 1 _ rfl) (by omega) zB ?_
                      intro g9 cap9 v0_13 hc9 b9
                      replace HC : Hid (Sc3 B v0_13 (.slice s1 n1 c1) n1 (.slice s2 n2 c2) n2 (.slice (some ⟨g9, 0, none⟩) (n3 + 1) cap9) (n3 + 1)) := hc9
                      replace H4 : Hid (Blk v0_13 g4 [.int .i64 0, .slice none 0 0, .slice none 0 0, .slice none 0 0]) := H4.out.belowB b9 (by omega)
                      replace H5 : Hid (Blk v0_13 g5 [.int .i64 mo, .slice s1 n1 c1, .slice s2 n2 c2, .slice s3 n3 c3]) := H5.out.belowB b9 (by omega)
                      replace HR : Hid (∃ q, Rd v0_13 r s n c q) := by obtain ⟨q_, R_⟩ := HR.out; exact ⟨q_, Rd.below' R_ (b9.mono (by omega))⟩
                      replace HS : Hid (Beside r w v0_13) := HS.out.onB (b9.mono (by omega))
                      replace zB : B ≤ v0_13.heap.size := Nat.le_trans zB b9.size
                      clear hc9 b9 HLB
                      go_simp
                      refine hK.out _ _ (trivial) (fun hHeld => ?_)
                      clear hK KK
                      refine wpAnyH_take (i := 7) (v := .pointer (some ⟨g5, 3, none⟩)) rfl (by kernel_rfl) (by kernel_rfl) (by kernel_rfl) (fun _ _ _ h => h) (Or.inl ⟨by kernel_rfl, ?_⟩) hHeld ?_
                      · intro w' hSw
                        first | (go_simp; done) | (go_simp; with_reducible rfl) | (go_simp; rw [IntKind.wrap_i64]; omega) | (go_simp; omega)
                      simp only [Act.put, List.setIfInBounds_toArray, List.set_cons_zero, List.set_cons_succ]
                      refine wpAnyH_ready (rs := [8]) (by kernel_rfl) (by simp) ?_
                      refine (AllReadyH.cons rfl (fun KK hK => ?_) AllReadyH.nil)
                      have u0 := H5.out.2.2 3 _ rfl
                      have f0 := H5.out.2.1 3
                      have uz := H5.out.1
                      have hst := store_slT
                      go_simp
                      obtain ⟨v0_14, hv_⟩ : ∃ z, z = v0_13.setCell ⟨g5, 3, none⟩ (.slice (some ⟨g9, 0, none⟩) (n3 + 1) cap9) := ⟨_, rfl⟩
                      rw [← hv_]
                      have b9 : Beside g5 v0_13 v0_14 := by rw [hv_]; exact Beside.setCell g5 _ 3 _
                      replace H5 : Hid (Blk v0_14 g5 [.int .i64 mo, .slice s1 n1 c1, .slice s2 n2 c2, .slice (some ⟨g9, 0, none⟩) (n3 + 1) cap9]) := by show Blk _ _ _; rw [hv_]; exact H5.out.set 3 _
                      replace H4 : Hid (Blk v0_14 g4 [.int .i64 0, .slice none 0 0, .slice none 0 0, .slice none 0 0]) := H4.out.beside b9 (by omega)
                      replace HC : Hid (Sc3 B v0_14 (.slice s1 n1 c1) n1 (.slice s2 n2 c2) n2 (.slice (some ⟨g9, 0, none⟩) (n3 + 1) cap9) (n3 + 1)) := HC.out.beside b9 (by omega)
                      replace HR : Hid (∃ q, Rd v0_14 r s n c q) := by obtain ⟨q_, R_⟩ := HR.out; have zr_ := R_.1; exact ⟨q_, Rd.below' R_ (b9.below (by omega) (by omega))⟩
                      replace HS : Hid (Beside r w v0_14) := HS.out.onB (b9.below (by omega) HS.out.2.2.2.1)
                      replace zB : B ≤ v0_14.heap.size := Nat.le_trans zB b9.2.2.2.1
                      clear hv_ b9 u0 f0 uz hst
                      refine hK.out _ _ (trivial) (fun hHeld => ?_)
                      clear hK KK
                      refine wpAnyH_done (by kernel_rfl) ?_ _
                      clear hHeld
                      have u0 := H5.out.2.2 0 _ rfl
                      have t0 := H4.out.2.2 0 _ rfl
                      have f0 := H4.out.2.1 0
                      have u1 := H5.out.2.2 1 _ rfl
                      have t1 := H4.out.2.2 1 _ rfl
                      have f1 := H4.out.2.1 1
                      have u2 := H5.out.2.2 2 _ rfl
                      have t2 := H4.out.2.2 2 _ rfl
                      have f2 := H4.out.2.1 2
                      have u3 := H5.out.2.2 3 _ rfl
                      have t3 := H4.out.2.2 3 _ rfl
                      have f3 := H4.out.2.1 3
                      have uz := H5.out.1
                      have tz := H4.out.1
                      have hst := store_slT
                      have n45 : g4 ≠ g5 := by omega
                      obtain ⟨qz, Rz⟩ := HR.out
                      have zrz := Rz.1
                      go_upto_region 21 with fail
                      have hrow : ∀ W2, Beside g4 v0_14 W2 → ∃ q, Rd W2 r s n c q ∧ Beside r w W2 ∧ Sc3 w.heap.size W2 (.slice s1 n1 c1) n1 (.slice s2 n2 c2) n2 (.slice (some ⟨g9, 0, none⟩) (n3 + 1) cap9) (n3 + 1) := fun W2 hb => ⟨qz, Rd.below' Rz (hb.below (by omega) (by omega)), HS.out.onB (hb.below (by omega) HS.out.2.2.2.1), (HC.out.beside hb (by omega)).low (by omega)⟩
                      go_wp2
                      refine bodyPost_ret (v := .agg #[.int .i64 mo, .slice s1 n1 c1, .slice s2 n2 c2, .slice (some ⟨g9, 0, none⟩) (n3 + 1) cap9]) (by simp [results, Try.results44, go_sem, u0, u1, u2, u3, t0, t1, t2, t3, n45, n45.symm]) rfl ?_
                      obtain ⟨q9, e1, e2, e3⟩ := hrow _ (((Beside.setCell g4 _ 0 _).trans (Beside.setCell g4 _ 1 _)).trans ((Beside.setCell g4 _ 2 _).trans (Beside.setCell g4 _ 3 _)))
                      exact ⟨mo, s1, n1, c1, s2, n2, c2, some ⟨g9, 0, none⟩, n3 + 1, cap9, q9, rfl, by omega, by omega, by omega, e3, e1, e2⟩
                case neg =>
                  have f3_ : (kk == 3) = false := beq_false_of_ne e3
                  have u0 := H5.out.2.2 0 _ rfl
                  have t0 := H4.out.2.2 0 _ rfl
                  have f0 := H4.out.2.1 0
                  have u1 := H5.out.2.2 1 _ rfl
                  have t1 := H4.out.2.2 1 _ rfl
                  have f1 := H4.out.2.1 1
                  have u2 := H5.out.2.2 2 _ rfl
                  have t2 := H4.out.2.2 2 _ rfl
                  have f2 := H4.out.2.1 2
                  have u3 := H5.out.2.2 3 _ rfl
                  have t3 := H4.out.2.2 3 _ rfl
                  have f3 := H4.out.2.1 3
                  have uz := H5.out.1
                  have tz := H4.out.1
                  have hst := store_slT
                  have n45 : g4 ≠ g5 := by omega
                  obtain ⟨qz, Rz⟩ := HR.out
                  have zrz := Rz.1
                  go_upto_region 21 with fail
                  have hrow : ∀ W2, Beside g4 w8 W2 → ∃ q, Rd W2 r s n c q ∧ Beside r w W2 ∧ Sc3 w.heap.size W2 (.slice s1 n1 c1) n1 (.slice s2 n2 c2) n2 (.slice s3 n3 c3) n3 := fun W2 hb => ⟨qz, Rd.below' Rz (hb.below (by omega) (by omega)), HS.out.onB (hb.below (by omega) HS.out.2.2.2.1), (HC.out.beside hb (by omega)).low (by omega)⟩
                  go_wp2
                  refine bodyPost_ret (v := .agg #[.int .i64 mo, .slice s1 n1 c1, .slice s2 n2 c2, .slice s3 n3 c3]) (by simp [results, Try.results44, go_sem, u0, u1, u2, u3, t0, t1, t2, t3, n45, n45.symm]) rfl ?_
                  obtain ⟨q9, e1, e2, e3⟩ := hrow _ (((Beside.setCell g4 _ 0 _).trans (Beside.setCell g4 _ 1 _)).trans ((Beside.setCell g4 _ 2 _).trans (Beside.setCell g4 _ 3 _)))
                  exact ⟨mo, s1, n1, c1, s2, n2, c2, s3, n3, c3, q9, rfl, by omega, by omega, by omega, e3, e1, e2⟩
end Go.Proofs.Ytlbbdifmjdpfiaa
