/-
What is proved: the draw of a board.
-/
import Derived.Test.YtlbbdifmjdpfiaaAlAz
import Derived.Test.YtlbbdifmjdpfiaaScDz
import Derived.Test.YtlbbdifmjdpfiaaBsSz
import Derived.Deep.DeepCutAuto
import Derived.Deep.RegionHeldLaw
namespace Go.Proofs.Ytlbbdifmjdpfiaa
set_option maxRecDepth 40000
open Go.ChangeShapes Go.WideShapes Go.ChangeAt Go.RowKit
set_option linter.unusedVariables false
set_option linter.unusedSimpArgs false

def BdPost (r : Nat) (s : Option Addr) (n c : Nat) (w : World) (e : Ending) (w' : World) : Prop := ∃ (x : Int) (s1 : Option Addr) (n1 c1 : Nat) (V : Nat → Int × Int × Int × Bool × Int) (p' : Nat), e = .returned (.agg #[.int .i64 x, .slice s1 n1 c1]) ∧ 1 ≤ n1 ∧ n1 ≤ 69000 ∧ OwnAlarm w.heap.size w' s1 n1 V ∧ Rd w' r s n c p' ∧ Beside r w w'
set_option maxRecDepth 20000 in
set_option maxHeartbeats 16000000 in
theorem board_any {r : Nat} {s : Option Addr} {n c p : Nat} {w : World} (h : Hid (Rd w r s n c p)) :
    Calls Try.prog 42 #[.pointer (some ⟨r, 0, none⟩)] w fun e w' => BdPost r s n c w e w' := by
  go_enter Try.func42, Try.ntmps42
  go_upto_region 1 with fail
  obtain ⟨wa, hwa⟩ : ∃ z, z = w.alloc (.cells #[.int .i64 0, .slice none 0 0] 26) := ⟨_, rfl⟩
  try rw [← hwa]
  obtain ⟨g2, hg2⟩ : ∃ z, z = w.heap.size := ⟨_, rfl⟩
  have ba : Below w.heap.size w wa := by rw [hwa]; exact below0 _ _
  have H2a : Hid (Blk wa g2 [.int .i64 0, .slice none 0 0]) := by show Blk _ _ _; rw [hwa, hg2]; exact Blk.new w #[.int .i64 0, .slice none 0 0] _
  have HRa : Hid (Rd wa r s n c p) := h.out.below ba
  have HSa : Hid (Beside r w wa) := Beside.of ba
  have zr2 : r < g2 := by have := h.out.1; omega
  have zw2 : w.heap.size ≤ g2 := by omega
  try rw [← hg2]
  clear hwa ba hg2 h
  go_wp2_with fail
  refine (near_all 0 50 HRa).mono ?_
  rintro e w1 ⟨x, p1, rfl, R1, b1⟩
  have H2b : Hid (Blk w1 g2 [.int .i64 0, .slice none 0 0]) := H2a.out.beside b1 (by omega)
  have HSb : Hid (Beside r w w1) := HSa.out.trans b1
  go_upto_region 2 with fail
  obtain ⟨w2, hw2⟩ : ∃ z, z = w1.alloc (.cells #[.int .i64 x, .slice none 0 0] 26) := ⟨_, rfl⟩
  try rw [← hw2]
  obtain ⟨g3, hg3⟩ : ∃ z, z = w1.heap.size := ⟨_, rfl⟩
  have b2 : Below w1.heap.size w1 w2 := by rw [hw2]; exact below0 _ _
  have H3 : Hid (Blk w2 g3 [.int .i64 x, .slice none 0 0]) := by show Blk _ _ _; rw [hw2, hg3]; exact Blk.new w1 #[.int .i64 x, .slice none 0 0] _
  have H2 : Hid (Blk w2 g2 [.int .i64 0, .slice none 0 0]) := H2b.out.below b2
  have HS : Hid (Beside r w w2) := HSb.out.trans (Beside.of b2)
  have HR : Hid (∃ q, Rd w2 r s n c q) := ⟨_, R1.below b2⟩
  have z23 : g2 < g3 := by have := H2b.out.1; omega
  obtain ⟨B, hB⟩ : ∃ B, B = g3 + 1 := ⟨_, rfl⟩
  have z3B : g3 < B := by omega
  have zB : B ≤ w2.heap.size := by have := H3.out.1; omega
  try rw [← hg3]
  clear hw2 b2 hg3 hB R1 b1 H2a HRa HSa H2b HSb
  go_cut [4] (fun v wx => ∃ k : Nat, v = .int .i64 (k : Int) ∧ 1 ≤ k ∧ k ≤ 65536 ∧ Hid (∃ q, Rd wx r s n c q) ∧ Hid (Beside r w wx) ∧ Hid (Blk wx g2 [.int .i64 0, .slice none 0 0]) ∧ Hid (Blk wx g3 [.int .i64 x, .slice none 0 0]) ∧ B ≤ wx.heap.size)
  case first =>
    obtain ⟨q0, R0⟩ := HR.out
    have c0 := R0.2.2.1
    have n20 := R0.2.2.2.2.2.1
    have nn : (n : Int) ≤ 1048576 := by omega
    have zr := R0.1
    have HR0 : Hid (Rd w2 r s n c q0) := R0
    clear R0
    go_wp2_with fail
    all_goals
      refine (below_any _ HR0).mono ?_
      rintro e w3 ⟨k, p', rfl, k0, k65, -, R9, b9⟩
      obtain ⟨kN, hkN⟩ : ∃ kN : Nat, 1 + k = (kN : Int) := ⟨(1 + k).toNat, by omega⟩
      have wk : IntKind.i64.wrap (1 + k) = (kN : Int) := by rw [IntKind.wrap_i64]; omega
      have e1 : 1 ≤ kN := by omega
      have e2 : kN ≤ 65536 := by omega
      replace H2 : Hid (Blk w3 g2 [.int .i64 0, .slice none 0 0]) := H2.out.beside b9 (by omega)
      replace H3 : Hid (Blk w3 g3 [.int .i64 x, .slice none 0 0]) := H3.out.beside b9 (by omega)
      replace HS : Hid (Beside r w w3) := HS.out.trans b9
      replace zB : B ≤ w3.heap.size := Nat.le_trans zB b9.2.2.2.1
      replace HR : Hid (∃ q, Rd w3 r s n c q) := ⟨_, R9⟩
      clear R9 b9 c0 n20 nn k0 k65 zr HR0
      go_wp2_with fail
      go_meet
      exact ⟨kN, (by first | rfl | rw [hkN]), e1, e2, HR, HS, H2, H3, zB⟩
  clear HR HS H2 H3 zB
  obtain ⟨k0, rfl, hk1, hk2, HR, HS, H2, H3, zB⟩ := hcut
  rename World => w3
  go_wp2_with fail
  go_loopw [4] (fun v wx => ∃ (k m mc : Nat) (t : Option Addr), v = .int .i64 (k : Int) ∧ m + k ≤ 65536 ∧ 1 ≤ m + k ∧ Hid (∃ q, Rd wx r s n c q) ∧ Hid (Beside r w wx) ∧ Hid (Blk wx g2 [.int .i64 0, .slice none 0 0]) ∧ Hid (Blk wx g3 [.int .i64 x, .slice t m mc]) ∧ B ≤ wx.heap.size ∧ Hid (AlG B wx (.slice t m mc) m)) (fun v _ => (intOf v).toNat)
  case atStart => exact ⟨k0, 0, 0, none, rfl, by omega, by omega, HR, HS, H2, H3, zB, AlG.nil _ _⟩
  case round =>
    clear HR HS H2 H3 zB hk1 hk2
    obtain ⟨k, m, mc, t, rfl, hk1, hk2, HR, HS, H2, H3, zB, HA⟩ := hrel
    rename World => wr
    by_cases hk : 0 < k
    case pos =>
      have hki : (0 : Int) < (k : Int) := by omega
      go_upto_region 5 with fail
      refine wp_region_held_drew (S := fun w' => True) (by kernel_rfl) ?_ (fun hHeld => ?_)
      · trivial
      obtain ⟨v0, hv0⟩ : ∃ z, z = wr.drew := ⟨_, rfl⟩
      try rw [← hv0] at hHeld
      rw [← hv0]
      have bv0 : Below wr.heap.size wr v0 := by rw [hv0]; exact Below.drew (Below.refl _ _)
      clear hv0
      replace H2 : Hid (Blk v0 g2 [.int .i64 0, .slice none 0 0]) := H2.out.below bv0
      replace H3 : Hid (Blk v0 g3 [.int .i64 x, .slice t m mc]) := H3.out.below bv0
      replace HS : Hid (Beside r w v0) := HS.out.trans (Beside.of bv0)
      replace zB : B ≤ v0.heap.size := Nat.le_trans zB bv0.size
      replace HA : Hid (AlG B v0 (.slice t m mc) m) := HA.out.below bv0
      replace HR : Hid (∃ q, Rd v0 r s n c q) := by obtain ⟨q_, R_⟩ := HR.out; exact ⟨q_, R_.below bv0⟩
      clear bv0
      refine wpAnyH_take (i := 0) (v := .pointer (some ⟨g3, 1, none⟩)) rfl (by kernel_rfl) (by kernel_rfl) (by kernel_rfl) (fun _ _ _ h => h) (Or.inl ⟨by kernel_rfl, ?_⟩) hHeld ?_
      · intro w' hSw
        first | (go_simp; done) | (go_simp; with_reducible rfl) | (go_simp; rw [IntKind.wrap_i64]; omega) | (go_simp; omega)
      simp only [Act.put, List.setIfInBounds_toArray, List.set_cons_zero, List.set_cons_succ]
      refine wpAnyH_take (i := 2) (v := .pointer (some ⟨r, 0, none⟩)) rfl (by kernel_rfl) (by kernel_rfl) (by kernel_rfl) (fun _ _ _ h => h) (Or.inl ⟨by kernel_rfl, ?_⟩) hHeld ?_
      · intro w' hSw
        first | (go_simp; done) | (go_simp; with_reducible rfl) | (go_simp; rw [IntKind.wrap_i64]; omega) | (go_simp; omega)
      simp only [Act.put, List.setIfInBounds_toArray, List.set_cons_zero, List.set_cons_succ]
      refine wpAnyH_take (i := 6) (v := .pointer (some ⟨r, 0, none⟩)) rfl (by kernel_rfl) (by kernel_rfl) (by kernel_rfl) (fun _ _ _ h => h) (Or.inl ⟨by kernel_rfl, ?_⟩) hHeld ?_
      · intro w' hSw
        first | (go_simp; done) | (go_simp; with_reducible rfl) | (go_simp; rw [IntKind.wrap_i64]; omega) | (go_simp; omega)
      simp only [Act.put, List.setIfInBounds_toArray, List.set_cons_zero, List.set_cons_succ]
      refine wpAnyH_ready (rs := [1, 3, 5]) (by kernel_rfl) (by simp) ?_
      refine (AllReadyH.cons rfl (fun KK hK => ?_) (AllReadyH.cons rfl (fun KK hK => ?_) (AllReadyH.cons rfl (fun KK hK => ?_) AllReadyH.nil)))
      · have c_ := H3.out.2.2 1 _ rfl
        have z_ := H3.out.1
        go_simp
        clear c_ z_
        refine hK.out _ _ (trivial) (fun hHeld => ?_)
        clear hK KK
        refine wpAnyH_ready (rs := [3, 5]) (by kernel_rfl) (by simp) ?_
        refine (AllReadyH.cons rfl (fun KK hK => ?_) (AllReadyH.cons rfl (fun KK hK => ?_) AllReadyH.nil))
        · obtain ⟨q0, R0⟩ := HR.out
          go_simp
          go_wp2_with (first | (go_at_call 46; refine (below_any 3 R0).mono ?_; rintro e v0_2 ⟨y3, p9, rfl, y30, y36, y3m, R9, b9⟩))
          replace H2 : Hid (Blk v0_2 g2 [.int .i64 0, .slice none 0 0]) := H2.out.beside b9 (by omega)
          replace H3 : Hid (Blk v0_2 g3 [.int .i64 x, .slice t m mc]) := H3.out.beside b9 (by omega)
          replace HS : Hid (Beside r w v0_2) := HS.out.trans b9
          replace zB : B ≤ v0_2.heap.size := Nat.le_trans zB b9.2.2.2.1
          replace HA : Hid (AlG B v0_2 (.slice t m mc) m) := HA.out.beside b9 (by omega)
          replace HR : Hid (∃ q, Rd v0_2 r s n c q) := ⟨_, R9⟩
          clear R0 R9 b9
          refine hK.out _ _ (trivial) (fun hHeld => ?_)
          clear hK KK
          refine wpAnyH_take (i := 4) (v := .int .i64 (1 + y3)) rfl (by kernel_rfl) (by kernel_rfl) (by kernel_rfl) (fun _ _ _ h => h) (Or.inl ⟨by kernel_rfl, ?_⟩) hHeld ?_
          · intro w' hSw
            first | (go_simp; done) | (go_simp; with_reducible rfl) | (go_simp; rw [IntKind.wrap_i64]; omega) | (go_simp; omega)
          simp only [Act.put, List.setIfInBounds_toArray, List.set_cons_zero, List.set_cons_succ]
          refine wpAnyH_ready (rs := [5, 7]) (by kernel_rfl) (by simp) ?_
          refine (AllReadyH.cons rfl (fun KK hK => ?_) (AllReadyH.cons rfl (fun KK hK => ?_) AllReadyH.nil))
          · go_simp
            obtain ⟨v0_3, hv_⟩ : ∃ z, z = v0_2.alloc (.cells #[.int .i64 0, .int .i64 0, .int .i64 2, .int .i64 255] 3) := ⟨_, rfl⟩
            rw [← hv_]
            obtain ⟨lt, hlt⟩ : ∃ z, z = v0_2.heap.size := ⟨_, rfl⟩
            have b_ : Below v0_2.heap.size v0_2 v0_3 := by rw [hv_]; exact below0 _ _
            have HT : Hid (Blk v0_3 lt [.int .i64 0, .int .i64 0, .int .i64 2, .int .i64 255]) := by show Blk _ _ _; rw [hv_, hlt]; exact Blk.new v0_2 #[.int .i64 0, .int .i64 0, .int .i64 2, .int .i64 255] _
            have zrt : r < lt := by obtain ⟨q_, R_⟩ := HR.out; have := R_.1; omega
            have zlB : B ≤ lt := by omega
            replace H2 : Hid (Blk v0_3 g2 [.int .i64 0, .slice none 0 0]) := H2.out.below b_
            replace H3 : Hid (Blk v0_3 g3 [.int .i64 x, .slice t m mc]) := H3.out.below b_
            replace HS : Hid (Beside r w v0_3) := HS.out.trans (Beside.of b_)
            replace zB : B ≤ v0_3.heap.size := Nat.le_trans zB b_.size
            replace HA : Hid (AlG B v0_3 (.slice t m mc) m) := HA.out.below b_
            replace HR : Hid (∃ q, Rd v0_3 r s n c q) := by obtain ⟨q_, R_⟩ := HR.out; exact ⟨q_, R_.below b_⟩
            try rw [← hlt]
            clear hv_ hlt b_
            refine hK.out _ _ (trivial) (fun hHeld => ?_)
            clear hK KK
            refine wpAnyH_ready (rs := [7]) (by kernel_rfl) (by simp) ?_
            refine (AllReadyH.cons rfl (fun KK hK => ?_) AllReadyH.nil)
            obtain ⟨q0, R0⟩ := HR.out
            go_simp
            go_wp2_with (first | (go_at_call 46; refine (below_any 4 R0).mono ?_; rintro e v0_4 ⟨y7, p9, rfl, y70, y76, y7m, R9, b9⟩))
            replace H2 : Hid (Blk v0_4 g2 [.int .i64 0, .slice none 0 0]) := H2.out.beside b9 (by omega)
            replace H3 : Hid (Blk v0_4 g3 [.int .i64 x, .slice t m mc]) := H3.out.beside b9 (by omega)
            replace HS : Hid (Beside r w v0_4) := HS.out.trans b9
            replace zB : B ≤ v0_4.heap.size := Nat.le_trans zB b9.2.2.2.1
            replace HA : Hid (AlG B v0_4 (.slice t m mc) m) := HA.out.beside b9 (by omega)
            replace HT : Hid (Blk v0_4 lt [.int .i64 0, .int .i64 0, .int .i64 2, .int .i64 255]) := HT.out.beside b9 (by omega)
            replace HR : Hid (∃ q, Rd v0_4 r s n c q) := ⟨_, R9⟩
            clear R0 R9 b9
            obtain ⟨j7, rfl⟩ : ∃ j : Nat, y7 = (j : Int) := ⟨y7.toNat, by omega⟩
            have j74 : j7 < 4 := by omega
            clear y70 y76 y7m
            refine hK.out _ _ (trivial) (fun hHeld => ?_)
            clear hK KK
            refine wpAnyH_take (i := 8) (v := .pointer (some ⟨lt, j7, none⟩)) rfl (by kernel_rfl) (by kernel_rfl) (by kernel_rfl) (fun _ _ _ h => h) (Or.inl ⟨by kernel_rfl, ?_⟩) hHeld ?_
            · intro w' hSw
              first | (go_simp; done) | (go_simp; with_reducible rfl) | (go_simp; rw [IntKind.wrap_i64]; omega) | (go_simp; omega)
            simp only [Act.put, List.setIfInBounds_toArray, List.set_cons_zero, List.set_cons_succ]
            refine wpAnyH_ready (rs := [9]) (by kernel_rfl) (by simp) ?_
            refine (AllReadyH.cons rfl (fun KK hK => ?_) AllReadyH.nil)
            obtain ⟨o7, ho7⟩ : ∃ o7 : Int, v0_4.cell? ⟨lt, j7, none⟩ = some (.int .i64 o7) := by
              have : j7 = 0 ∨ j7 = 1 ∨ j7 = 2 ∨ j7 = 3 := by omega
              rcases this with q_ | q_ | q_ | q_ <;> subst q_
              · exact ⟨_, HT.out.2.2 0 _ rfl⟩
              · exact ⟨_, HT.out.2.2 1 _ rfl⟩
              · exact ⟨_, HT.out.2.2 2 _ rfl⟩
              · exact ⟨_, HT.out.2.2 3 _ rfl⟩
            have z_ := HT.out.1
            go_simp
            clear ho7 z_ HT
            refine hK.out _ _ (trivial) (fun hHeld => ?_)
            clear hK KK
            refine wpAnyH_take (i := 10) (v := .agg #[.int .i64 (1 + y3), .int .i64 o7, .int .i64 0, .bool false, .int .i64 0]) rfl (by kernel_rfl) (by kernel_rfl) (by kernel_rfl) (fun _ _ _ h => h) (Or.inl ⟨by kernel_rfl, ?_⟩) hHeld ?_
            · intro w' hSw
              first | (go_simp; done) | (go_simp; with_reducible rfl) | (go_simp; rw [IntKind.wrap_i64]; omega) | (go_simp; omega)
            simp only [Act.put, List.setIfInBounds_toArray, List.set_cons_zero, List.set_cons_succ]
            refine wpAnyH_ready (rs := [11]) (by kernel_rfl) (by simp) ?_
            refine (AllReadyH.cons rfl (fun KK hK => ?_) AllReadyH.nil)
            go_simp
            obtain ⟨v0_6, hv_⟩ : ∃ z, z = v0_4.alloc (.cells #[.int .i64 (1 + y3), .int .i64 o7, .int .i64 0, .bool false, .int .i64 0] 43) := ⟨_, rfl⟩
            rw [← hv_]
            obtain ⟨lb, hlb⟩ : ∃ z, z = v0_4.heap.size := ⟨_, rfl⟩
            have b_ : Below v0_4.heap.size v0_4 v0_6 := by rw [hv_]; exact below0 _ _
            have HLB : Hid (∀ j u, [Value.int .i64 (1 + y3), .int .i64 o7, .int .i64 0, .bool false, .int .i64 0][j]? = some u → v0_6.cell? ((⟨lb, 0, none⟩ : Addr).add j) = some u) := by rw [hv_, hlb]; exact World.news_of_block (cs := #[.int .i64 (1 + y3), .int .i64 o7, .int .i64 0, .bool false, .int .i64 0]) (heap_alloc_new _ _)
            replace H2 : Hid (Blk v0_6 g2 [.int .i64 0, .slice none 0 0]) := H2.out.below b_
            replace H3 : Hid (Blk v0_6 g3 [.int .i64 x, .slice t m mc]) := H3.out.below b_
            replace HS : Hid (Beside r w v0_6) := HS.out.trans (Beside.of b_)
            replace zB : B ≤ v0_6.heap.size := Nat.le_trans zB b_.size
            replace HA : Hid (AlG B v0_6 (.slice t m mc) m) := HA.out.below b_
            replace HR : Hid (∃ q, Rd v0_6 r s n c q) := by obtain ⟨q_, R_⟩ := HR.out; exact ⟨q_, R_.below b_⟩
            try rw [← hlb]
            clear hv_ hlb b_
            refine hK.out _ _ (trivial) (fun hHeld => ?_)
            clear hK KK
            refine wpAnyH_ready (rs := [12]) (by kernel_rfl) (by simp) ?_
            refine (AllReadyH.cons rfl (fun KK hK => ?_) AllReadyH.nil)
            refine wp_alm HA.out (.tmp 29) (.tmp 39) (by rfl) (by rfl) lb (by rfl) HLB.out (by omega) zB ?_
            intro g9 cap9 v0_7 hc9 b9
            replace HA : Hid (AlG B v0_7 (.slice (some ⟨g9, 0, none⟩) (m + 1) cap9) (m + 1)) := hc9
            replace H2 : Hid (Blk v0_7 g2 [.int .i64 0, .slice none 0 0]) := H2.out.belowB b9 (by omega)
            replace H3 : Hid (Blk v0_7 g3 [.int .i64 x, .slice t m mc]) := H3.out.belowB b9 (by omega)
            replace HR : Hid (∃ q, Rd v0_7 r s n c q) := by obtain ⟨q_, R_⟩ := HR.out; exact ⟨q_, Rd.below' R_ (b9.mono (by omega))⟩
            replace HS : Hid (Beside r w v0_7) := HS.out.onB (b9.mono (by omega))
            replace zB : B ≤ v0_7.heap.size := Nat.le_trans zB b9.size
            clear hc9 b9 HLB
            go_simp
            refine hK.out _ _ (trivial) (fun hHeld => ?_)
            clear hK KK
            refine wpAnyH_take (i := 13) (v := .pointer (some ⟨g3, 1, none⟩)) rfl (by kernel_rfl) (by kernel_rfl) (by kernel_rfl) (fun _ _ _ h => h) (Or.inl ⟨by kernel_rfl, ?_⟩) hHeld ?_
            · intro w' hSw
              first | (go_simp; done) | (go_simp; with_reducible rfl) | (go_simp; rw [IntKind.wrap_i64]; omega) | (go_simp; omega)
            simp only [Act.put, List.setIfInBounds_toArray, List.set_cons_zero, List.set_cons_succ]
            refine wpAnyH_ready (rs := [14]) (by kernel_rfl) (by simp) ?_
            refine (AllReadyH.cons rfl (fun KK hK => ?_) AllReadyH.nil)
            have u0 := H3.out.2.2 1 _ rfl
            have f0 := H3.out.2.1 1
            have uz := H3.out.1
            have hst := store_slT
            go_simp
            obtain ⟨v0_8, hv_⟩ : ∃ z, z = v0_7.setCell ⟨g3, 1, none⟩ (.slice (some ⟨g9, 0, none⟩) (m + 1) cap9) := ⟨_, rfl⟩
            rw [← hv_]
            have b9 : Beside g3 v0_7 v0_8 := by rw [hv_]; exact Beside.setCell g3 _ 1 _
            replace H3 : Hid (Blk v0_8 g3 [.int .i64 x, .slice (some ⟨g9, 0, none⟩) (m + 1) cap9]) := by show Blk _ _ _; rw [hv_]; exact H3.out.set 1 _
            replace H2 : Hid (Blk v0_8 g2 [.int .i64 0, .slice none 0 0]) := H2.out.beside b9 (by omega)
            replace HA : Hid (AlG B v0_8 (.slice (some ⟨g9, 0, none⟩) (m + 1) cap9) (m + 1)) := HA.out.beside b9 (by omega)
            replace HR : Hid (∃ q, Rd v0_8 r s n c q) := by obtain ⟨q_, R_⟩ := HR.out; have zr_ := R_.1; exact ⟨q_, Rd.below' R_ (b9.below (by omega) (by omega))⟩
            replace HS : Hid (Beside r w v0_8) := HS.out.onB (b9.below (by omega) HS.out.2.2.2.1)
            replace zB : B ≤ v0_8.heap.size := Nat.le_trans zB b9.2.2.2.1
            clear hv_ b9
            clear u0 f0 uz hst
            refine hK.out _ _ (trivial) (fun hHeld => ?_)
            clear hK KK
            refine wpAnyH_done (by kernel_rfl) ?_ _
            clear hHeld
            go_wp2_with fail
            go_roundw
            case rel => exact ⟨k - 1, m + 1, cap9, some ⟨g9, 0, none⟩, by go_num, by omega, by omega, HR, HS, H2, H3, zB, HA⟩
            case measure => simp [intOf]; omega
          · obtain ⟨q0, R0⟩ := HR.out
            go_simp
            go_wp2_with (first | (go_at_call 46; refine (below_any 4 R0).mono ?_; rintro e v0_9 ⟨y7, p9, rfl, y70, y76, y7m, R9, b9⟩))
            replace H2 : Hid (Blk v0_9 g2 [.int .i64 0, .slice none 0 0]) := H2.out.beside b9 (by omega)
            replace H3 : Hid (Blk v0_9 g3 [.int .i64 x, .slice t m mc]) := H3.out.beside b9 (by omega)
            replace HS : Hid (Beside r w v0_9) := HS.out.trans b9
            replace zB : B ≤ v0_9.heap.size := Nat.le_trans zB b9.2.2.2.1
            replace HA : Hid (AlG B v0_9 (.slice t m mc) m) := HA.out.beside b9 (by omega)
            replace HR : Hid (∃ q, Rd v0_9 r s n c q) := ⟨_, R9⟩
            clear R0 R9 b9
            obtain ⟨j7, rfl⟩ : ∃ j : Nat, y7 = (j : Int) := ⟨y7.toNat, by omega⟩
            have j74 : j7 < 4 := by omega
            clear y70 y76 y7m
            refine hK.out _ _ (trivial) (fun hHeld => ?_)
            clear hK KK
            refine wpAnyH_ready (rs := [5]) (by kernel_rfl) (by simp) ?_
            refine (AllReadyH.cons rfl (fun KK hK => ?_) AllReadyH.nil)
            go_simp
            obtain ⟨v0_10, hv_⟩ : ∃ z, z = v0_9.alloc (.cells #[.int .i64 0, .int .i64 0, .int .i64 2, .int .i64 255] 3) := ⟨_, rfl⟩
            rw [← hv_]
            obtain ⟨lt, hlt⟩ : ∃ z, z = v0_9.heap.size := ⟨_, rfl⟩
            have b_ : Below v0_9.heap.size v0_9 v0_10 := by rw [hv_]; exact below0 _ _
            have HT : Hid (Blk v0_10 lt [.int .i64 0, .int .i64 0, .int .i64 2, .int .i64 255]) := by show Blk _ _ _; rw [hv_, hlt]; exact Blk.new v0_9 #[.int .i64 0, .int .i64 0, .int .i64 2, .int .i64 255] _
            have zrt : r < lt := by obtain ⟨q_, R_⟩ := HR.out; have := R_.1; omega
            have zlB : B ≤ lt := by omega
            replace H2 : Hid (Blk v0_10 g2 [.int .i64 0, .slice none 0 0]) := H2.out.below b_
            replace H3 : Hid (Blk v0_10 g3 [.int .i64 x, .slice t m mc]) := H3.out.below b_
            replace HS : Hid (Beside r w v0_10) := HS.out.trans (Beside.of b_)
            replace zB : B ≤ v0_10.heap.size := Nat.le_trans zB b_.size
            replace HA : Hid (AlG B v0_10 (.slice t m mc) m) := HA.out.below b_
            replace HR : Hid (∃ q, Rd v0_10 r s n c q) := by obtain ⟨q_, R_⟩ := HR.out; exact ⟨q_, R_.below b_⟩
            try rw [← hlt]
            clear hv_ hlt b_
            refine hK.out _ _ (trivial) (fun hHeld => ?_)
            clear hK KK
            refine wpAnyH_take (i := 8) (v := .pointer (some ⟨lt, j7, none⟩)) rfl (by kernel_rfl) (by kernel_rfl) (by kernel_rfl) (fun _ _ _ h => h) (Or.inl ⟨by kernel_rfl, ?_⟩) hHeld ?_
            · intro w' hSw
              first | (go_simp; done) | (go_simp; with_reducible rfl) | (go_simp; rw [IntKind.wrap_i64]; omega) | (go_simp; omega)
            simp only [Act.put, List.setIfInBounds_toArray, List.set_cons_zero, List.set_cons_succ]
            refine wpAnyH_ready (rs := [9]) (by kernel_rfl) (by simp) ?_
            refine (AllReadyH.cons rfl (fun KK hK => ?_) AllReadyH.nil)
            obtain ⟨o7, ho7⟩ : ∃ o7 : Int, v0_10.cell? ⟨lt, j7, none⟩ = some (.int .i64 o7) := by
              have : j7 = 0 ∨ j7 = 1 ∨ j7 = 2 ∨ j7 = 3 := by omega
              rcases this with q_ | q_ | q_ | q_ <;> subst q_
              · exact ⟨_, HT.out.2.2 0 _ rfl⟩
              · exact ⟨_, HT.out.2.2 1 _ rfl⟩
              · exact ⟨_, HT.out.2.2 2 _ rfl⟩
              · exact ⟨_, HT.out.2.2 3 _ rfl⟩
            have z_ := HT.out.1
            go_simp
            clear ho7 z_ HT
            refine hK.out _ _ (trivial) (fun hHeld => ?_)
            clear hK KK
            refine wpAnyH_take (i := 10) (v := .agg #[.int .i64 (1 + y3), .int .i64 o7, .int .i64 0, .bool false, .int .i64 0]) rfl (by kernel_rfl) (by kernel_rfl) (by kernel_rfl) (fun _ _ _ h => h) (Or.inl ⟨by kernel_rfl, ?_⟩) hHeld ?_
            · intro w' hSw
              first | (go_simp; done) | (go_simp; with_reducible rfl) | (go_simp; rw [IntKind.wrap_i64]; omega) | (go_simp; omega)
            simp only [Act.put, List.setIfInBounds_toArray, List.set_cons_zero, List.set_cons_succ]
            refine wpAnyH_ready (rs := [11]) (by kernel_rfl) (by simp) ?_
            refine (AllReadyH.cons rfl (fun KK hK => ?_) AllReadyH.nil)
            go_simp
            obtain ⟨v0_12, hv_⟩ : ∃ z, z = v0_10.alloc (.cells #[.int .i64 (1 + y3), .int .i64 o7, .int .i64 0, .bool false, .int .i64 0] 43) := ⟨_, rfl⟩
            rw [← hv_]
            obtain ⟨lb, hlb⟩ : ∃ z, z = v0_10.heap.size := ⟨_, rfl⟩
            have b_ : Below v0_10.heap.size v0_10 v0_12 := by rw [hv_]; exact below0 _ _
            have HLB : Hid (∀ j u, [Value.int .i64 (1 + y3), .int .i64 o7, .int .i64 0, .bool false, .int .i64 0][j]? = some u → v0_12.cell? ((⟨lb, 0, none⟩ : Addr).add j) = some u) := by rw [hv_, hlb]; exact World.news_of_block (cs := #[.int .i64 (1 + y3), .int .i64 o7, .int .i64 0, .bool false, .int .i64 0]) (heap_alloc_new _ _)
            replace H2 : Hid (Blk v0_12 g2 [.int .i64 0, .slice none 0 0]) := H2.out.below b_
            replace H3 : Hid (Blk v0_12 g3 [.int .i64 x, .slice t m mc]) := H3.out.below b_
            replace HS : Hid (Beside r w v0_12) := HS.out.trans (Beside.of b_)
            replace zB : B ≤ v0_12.heap.size := Nat.le_trans zB b_.size
            replace HA : Hid (AlG B v0_12 (.slice t m mc) m) := HA.out.below b_
            replace HR : Hid (∃ q, Rd v0_12 r s n c q) := by obtain ⟨q_, R_⟩ := HR.out; exact ⟨q_, R_.below b_⟩
            try rw [← hlb]
            clear hv_ hlb b_
            refine hK.out _ _ (trivial) (fun hHeld => ?_)
            clear hK KK
            refine wpAnyH_ready (rs := [12]) (by kernel_rfl) (by simp) ?_
            refine (AllReadyH.cons rfl (fun KK hK => ?_) AllReadyH.nil)
            refine wp_alm HA.out (.tmp 29) (.tmp 39) (by rfl) (by rfl) lb (by rfl) HLB.out (by omega) zB ?_
            intro g9 cap9 v0_13 hc9 b9
            replace HA : Hid (AlG B v0_13 (.slice (some ⟨g9, 0, none⟩) (m + 1) cap9) (m + 1)) := hc9
            replace H2 : Hid (Blk v0_13 g2 [.int .i64 0, .slice none 0 0]) := H2.out.belowB b9 (by omega)
            replace H3 : Hid (Blk v0_13 g3 [.int .i64 x, .slice t m mc]) := H3.out.belowB b9 (by omega)
            replace HR : Hid (∃ q, Rd v0_13 r s n c q) := by obtain ⟨q_, R_⟩ := HR.out; exact ⟨q_, Rd.below' R_ (b9.mono (by omega))⟩
            replace HS : Hid (Beside r w v0_13) := HS.out.onB (b9.mono (by omega))
            replace zB : B ≤ v0_13.heap.size := Nat.le_trans zB b9.size
            clear hc9 b9 HLB
            go_simp
            refine hK.out _ _ (trivial) (fun hHeld => ?_)
            clear hK KK
            refine wpAnyH_take (i := 13) (v := .pointer (some ⟨g3, 1, none⟩)) rfl (by kernel_rfl) (by kernel_rfl) (by kernel_rfl) (fun _ _ _ h => h) (Or.inl ⟨by kernel_rfl, ?_⟩) hHeld ?_
            · intro w' hSw
              first | (go_simp; done) | (go_simp; with_reducible rfl) | (go_simp; rw [IntKind.wrap_i64]; omega) | (go_simp; omega)
            simp only [Act.put, List.setIfInBounds_toArray, List.set_cons_zero, List.set_cons_succ]
            refine wpAnyH_ready (rs := [14]) (by kernel_rfl) (by simp) ?_
            refine (AllReadyH.cons rfl (fun KK hK => ?_) AllReadyH.nil)
            have u0 := H3.out.2.2 1 _ rfl
            have f0 := H3.out.2.1 1
            have uz := H3.out.1
            have hst := store_slT
            go_simp
            obtain ⟨v0_14, hv_⟩ : ∃ z, z = v0_13.setCell ⟨g3, 1, none⟩ (.slice (some ⟨g9, 0, none⟩) (m + 1) cap9) := ⟨_, rfl⟩
            rw [← hv_]
            have b9 : Beside g3 v0_13 v0_14 := by rw [hv_]; exact Beside.setCell g3 _ 1 _
            replace H3 : Hid (Blk v0_14 g3 [.int .i64 x, .slice (some ⟨g9, 0, none⟩) (m + 1) cap9]) := by show Blk _ _ _; rw [hv_]; exact H3.out.set 1 _
            replace H2 : Hid (Blk v0_14 g2 [.int .i64 0, .slice none 0 0]) := H2.out.beside b9 (by omega)
            replace HA : Hid (AlG B v0_14 (.slice (some ⟨g9, 0, none⟩) (m + 1) cap9) (m + 1)) := HA.out.beside b9 (by omega)
            replace HR : Hid (∃ q, Rd v0_14 r s n c q) := by obtain ⟨q_, R_⟩ := HR.out; have zr_ := R_.1; exact ⟨q_, Rd.below' R_ (b9.below (by omega) (by omega))⟩
            replace HS : Hid (Beside r w v0_14) := HS.out.onB (b9.below (by omega) HS.out.2.2.2.1)
            replace zB : B ≤ v0_14.heap.size := Nat.le_trans zB b9.2.2.2.1
            clear hv_ b9
            clear u0 f0 uz hst
            refine hK.out _ _ (trivial) (fun hHeld => ?_)
            clear hK KK
            refine wpAnyH_done (by kernel_rfl) ?_ _
            clear hHeld
            go_wp2_with fail
            go_roundw
            case rel => exact ⟨k - 1, m + 1, cap9, some ⟨g9, 0, none⟩, by go_num, by omega, by omega, HR, HS, H2, H3, zB, HA⟩
            case measure => simp [intOf]; omega
        · go_simp
          obtain ⟨v0_15, hv_⟩ : ∃ z, z = v0.alloc (.cells #[.int .i64 0, .int .i64 0, .int .i64 2, .int .i64 255] 3) := ⟨_, rfl⟩
          rw [← hv_]
          obtain ⟨lt, hlt⟩ : ∃ z, z = v0.heap.size := ⟨_, rfl⟩
          have b_ : Below v0.heap.size v0 v0_15 := by rw [hv_]; exact below0 _ _
          have HT : Hid (Blk v0_15 lt [.int .i64 0, .int .i64 0, .int .i64 2, .int .i64 255]) := by show Blk _ _ _; rw [hv_, hlt]; exact Blk.new v0 #[.int .i64 0, .int .i64 0, .int .i64 2, .int .i64 255] _
          have zrt : r < lt := by obtain ⟨q_, R_⟩ := HR.out; have := R_.1; omega
          have zlB : B ≤ lt := by omega
          replace H2 : Hid (Blk v0_15 g2 [.int .i64 0, .slice none 0 0]) := H2.out.below b_
          replace H3 : Hid (Blk v0_15 g3 [.int .i64 x, .slice t m mc]) := H3.out.below b_
          replace HS : Hid (Beside r w v0_15) := HS.out.trans (Beside.of b_)
          replace zB : B ≤ v0_15.heap.size := Nat.le_trans zB b_.size
          replace HA : Hid (AlG B v0_15 (.slice t m mc) m) := HA.out.below b_
          replace HR : Hid (∃ q, Rd v0_15 r s n c q) := by obtain ⟨q_, R_⟩ := HR.out; exact ⟨q_, R_.below b_⟩
          try rw [← hlt]
          clear hv_ hlt b_
          refine hK.out _ _ (trivial) (fun hHeld => ?_)
          clear hK KK
          refine wpAnyH_ready (rs := [3]) (by kernel_rfl) (by simp) ?_
          refine (AllReadyH.cons rfl (fun KK hK => ?_) AllReadyH.nil)
          obtain ⟨q0, R0⟩ := HR.out
          go_simp
          go_wp2_with (first | (go_at_call 46; refine (below_any 3 R0).mono ?_; rintro e v0_16 ⟨y3, p9, rfl, y30, y36, y3m, R9, b9⟩))
          replace H2 : Hid (Blk v0_16 g2 [.int .i64 0, .slice none 0 0]) := H2.out.beside b9 (by omega)
          replace H3 : Hid (Blk v0_16 g3 [.int .i64 x, .slice t m mc]) := H3.out.beside b9 (by omega)
          replace HS : Hid (Beside r w v0_16) := HS.out.trans b9
          replace zB : B ≤ v0_16.heap.size := Nat.le_trans zB b9.2.2.2.1
          replace HA : Hid (AlG B v0_16 (.slice t m mc) m) := HA.out.beside b9 (by omega)
          replace HT : Hid (Blk v0_16 lt [.int .i64 0, .int .i64 0, .int .i64 2, .int .i64 255]) := HT.out.beside b9 (by omega)
          replace HR : Hid (∃ q, Rd v0_16 r s n c q) := ⟨_, R9⟩
          clear R0 R9 b9
          refine hK.out _ _ (trivial) (fun hHeld => ?_)
          clear hK KK
          refine wpAnyH_take (i := 4) (v := .int .i64 (1 + y3)) rfl (by kernel_rfl) (by kernel_rfl) (by kernel_rfl) (fun _ _ _ h => h) (Or.inl ⟨by kernel_rfl, ?_⟩) hHeld ?_
          · intro w' hSw
            first | (go_simp; done) | (go_simp; with_reducible rfl) | (go_simp; rw [IntKind.wrap_i64]; omega) | (go_simp; omega)
          simp only [Act.put, List.setIfInBounds_toArray, List.set_cons_zero, List.set_cons_succ]
          refine wpAnyH_ready (rs := [7]) (by kernel_rfl) (by simp) ?_
          refine (AllReadyH.cons rfl (fun KK hK => ?_) AllReadyH.nil)
          obtain ⟨q0, R0⟩ := HR.out
          go_simp
          go_wp2_with (first | (go_at_call 46; refine (below_any 4 R0).mono ?_; rintro e v0_17 ⟨y7, p9, rfl, y70, y76, y7m, R9, b9⟩))
          replace H2 : Hid (Blk v0_17 g2 [.int .i64 0, .slice none 0 0]) := H2.out.beside b9 (by omega)
          replace H3 : Hid (Blk v0_17 g3 [.int .i64 x, .slice t m mc]) := H3.out.beside b9 (by omega)
          replace HS : Hid (Beside r w v0_17) := HS.out.trans b9
          replace zB : B ≤ v0_17.heap.size := Nat.le_trans zB b9.2.2.2.1
          replace HA : Hid (AlG B v0_17 (.slice t m mc) m) := HA.out.beside b9 (by omega)
          replace HT : Hid (Blk v0_17 lt [.int .i64 0, .int .i64 0, .int .i64 2, .int .i64 255]) := HT.out.beside b9 (by omega)
          replace HR : Hid (∃ q, Rd v0_17 r s n c q) := ⟨_, R9⟩
          clear R0 R9 b9
          obtain ⟨j7, rfl⟩ : ∃ j : Nat, y7 = (j : Int) := ⟨y7.toNat, by omega⟩
          have j74 : j7 < 4 := by omega
          clear y70 y76 y7m
          refine hK.out _ _ (trivial) (fun hHeld => ?_)
          clear hK KK
          refine wpAnyH_take (i := 8) (v := .pointer (some ⟨lt, j7, none⟩)) rfl (by kernel_rfl) (by kernel_rfl) (by kernel_rfl) (fun _ _ _ h => h) (Or.inl ⟨by kernel_rfl, ?_⟩) hHeld ?_
          · intro w' hSw
            first | (go_simp; done) | (go_simp; with_reducible rfl) | (go_simp; rw [IntKind.wrap_i64]; omega) | (go_simp; omega)
          simp only [Act.put, List.setIfInBounds_toArray, List.set_cons_zero, List.set_cons_succ]
          refine wpAnyH_ready (rs := [9]) (by kernel_rfl) (by simp) ?_
          refine (AllReadyH.cons rfl (fun KK hK => ?_) AllReadyH.nil)
          obtain ⟨o7, ho7⟩ : ∃ o7 : Int, v0_17.cell? ⟨lt, j7, none⟩ = some (.int .i64 o7) := by
            have : j7 = 0 ∨ j7 = 1 ∨ j7 = 2 ∨ j7 = 3 := by omega
            rcases this with q_ | q_ | q_ | q_ <;> subst q_
            · exact ⟨_, HT.out.2.2 0 _ rfl⟩
            · exact ⟨_, HT.out.2.2 1 _ rfl⟩
            · exact ⟨_, HT.out.2.2 2 _ rfl⟩
            · exact ⟨_, HT.out.2.2 3 _ rfl⟩
          have z_ := HT.out.1
          go_simp
          clear ho7 z_ HT
          refine hK.out _ _ (trivial) (fun hHeld => ?_)
          clear hK KK
          refine wpAnyH_take (i := 10) (v := .agg #[.int .i64 (1 + y3), .int .i64 o7, .int .i64 0, .bool false, .int .i64 0]) rfl (by kernel_rfl) (by kernel_rfl) (by kernel_rfl) (fun _ _ _ h => h) (Or.inl ⟨by kernel_rfl, ?_⟩) hHeld ?_
          · intro w' hSw
            first | (go_simp; done) | (go_simp; with_reducible rfl) | (go_simp; rw [IntKind.wrap_i64]; omega) | (go_simp; omega)
          simp only [Act.put, List.setIfInBounds_toArray, List.set_cons_zero, List.set_cons_succ]
          refine wpAnyH_ready (rs := [11]) (by kernel_rfl) (by simp) ?_
          refine (AllReadyH.cons rfl (fun KK hK => ?_) AllReadyH.nil)
          go_simp
          obtain ⟨v0_19, hv_⟩ : ∃ z, z = v0_17.alloc (.cells #[.int .i64 (1 + y3), .int .i64 o7, .int .i64 0, .bool false, .int .i64 0] 43) := ⟨_, rfl⟩
          rw [← hv_]
          obtain ⟨lb, hlb⟩ : ∃ z, z = v0_17.heap.size := ⟨_, rfl⟩
          have b_ : Below v0_17.heap.size v0_17 v0_19 := by rw [hv_]; exact below0 _ _
          have HLB : Hid (∀ j u, [Value.int .i64 (1 + y3), .int .i64 o7, .int .i64 0, .bool false, .int .i64 0][j]? = some u → v0_19.cell? ((⟨lb, 0, none⟩ : Addr).add j) = some u) := by rw [hv_, hlb]; exact World.news_of_block (cs := #[.int .i64 (1 + y3), .int .i64 o7, .int .i64 0, .bool false, .int .i64 0]) (heap_alloc_new _ _)
          replace H2 : Hid (Blk v0_19 g2 [.int .i64 0, .slice none 0 0]) := H2.out.below b_
          replace H3 : Hid (Blk v0_19 g3 [.int .i64 x, .slice t m mc]) := H3.out.below b_
          replace HS : Hid (Beside r w v0_19) := HS.out.trans (Beside.of b_)
          replace zB : B ≤ v0_19.heap.size := Nat.le_trans zB b_.size
          replace HA : Hid (AlG B v0_19 (.slice t m mc) m) := HA.out.below b_
          replace HR : Hid (∃ q, Rd v0_19 r s n c q) := by obtain ⟨q_, R_⟩ := HR.out; exact ⟨q_, R_.below b_⟩
          try rw [← hlb]
          clear hv_ hlb b_
          refine hK.out _ _ (trivial) (fun hHeld => ?_)
          clear hK KK
          refine wpAnyH_ready (rs := [12]) (by kernel_rfl) (by simp) ?_
          refine (AllReadyH.cons rfl (fun KK hK => ?_) AllReadyH.nil)
          refine wp_alm HA.out (.tmp 29) (.tmp 39) (by rfl) (by rfl) lb (by rfl) HLB.out (by omega) zB ?_
          intro g9 cap9 v0_20 hc9 b9
          replace HA : Hid (AlG B v0_20 (.slice (some ⟨g9, 0, none⟩) (m + 1) cap9) (m + 1)) := hc9
          replace H2 : Hid (Blk v0_20 g2 [.int .i64 0, .slice none 0 0]) := H2.out.belowB b9 (by omega)
          replace H3 : Hid (Blk v0_20 g3 [.int .i64 x, .slice t m mc]) := H3.out.belowB b9 (by omega)
          replace HR : Hid (∃ q, Rd v0_20 r s n c q) := by obtain ⟨q_, R_⟩ := HR.out; exact ⟨q_, Rd.below' R_ (b9.mono (by omega))⟩
          replace HS : Hid (Beside r w v0_20) := HS.out.onB (b9.mono (by omega))
          replace zB : B ≤ v0_20.heap.size := Nat.le_trans zB b9.size
          clear hc9 b9 HLB
          go_simp
          refine hK.out _ _ (trivial) (fun hHeld => ?_)
          clear hK KK
          refine wpAnyH_take (i := 13) (v := .pointer (some ⟨g3, 1, none⟩)) rfl (by kernel_rfl) (by kernel_rfl) (by kernel_rfl) (fun _ _ _ h => h) (Or.inl ⟨by kernel_rfl, ?_⟩) hHeld ?_
          · intro w' hSw
            first | (go_simp; done) | (go_simp; with_reducible rfl) | (go_simp; rw [IntKind.wrap_i64]; omega) | (go_simp; omega)
          simp only [Act.put, List.setIfInBounds_toArray, List.set_cons_zero, List.set_cons_succ]
          refine wpAnyH_ready (rs := [14]) (by kernel_rfl) (by simp) ?_
          refine (AllReadyH.cons rfl (fun KK hK => ?_) AllReadyH.nil)
          have u0 := H3.out.2.2 1 _ rfl
          have f0 := H3.out.2.1 1
          have uz := H3.out.1
          have hst := store_slT
          go_simp
          obtain ⟨v0_21, hv_⟩ : ∃ z, z = v0_20.setCell ⟨g3, 1, none⟩ (.slice (some ⟨g9, 0, none⟩) (m + 1) cap9) := ⟨_, rfl⟩
          rw [← hv_]
          have b9 : Beside g3 v0_20 v0_21 := by rw [hv_]; exact Beside.setCell g3 _ 1 _
          replace H3 : Hid (Blk v0_21 g3 [.int .i64 x, .slice (some ⟨g9, 0, none⟩) (m + 1) cap9]) := by show Blk _ _ _; rw [hv_]; exact H3.out.set 1 _
          replace H2 : Hid (Blk v0_21 g2 [.int .i64 0, .slice none 0 0]) := H2.out.beside b9 (by omega)
          replace HA : Hid (AlG B v0_21 (.slice (some ⟨g9, 0, none⟩) (m + 1) cap9) (m + 1)) := HA.out.beside b9 (by omega)
          replace HR : Hid (∃ q, Rd v0_21 r s n c q) := by obtain ⟨q_, R_⟩ := HR.out; have zr_ := R_.1; exact ⟨q_, Rd.below' R_ (b9.below (by omega) (by omega))⟩
          replace HS : Hid (Beside r w v0_21) := HS.out.onB (b9.below (by omega) HS.out.2.2.2.1)
          replace zB : B ≤ v0_21.heap.size := Nat.le_trans zB b9.2.2.2.1
          clear hv_ b9
          clear u0 f0 uz hst
          refine hK.out _ _ (trivial) (fun hHeld => ?_)
          clear hK KK
          refine wpAnyH_done (by kernel_rfl) ?_ _
          clear hHeld
          go_wp2_with fail
          go_roundw
          case rel => exact ⟨k - 1, m + 1, cap9, some ⟨g9, 0, none⟩, by go_num, by omega, by omega, HR, HS, H2, H3, zB, HA⟩
          case measure => simp [intOf]; omega
      · obtain ⟨q0, R0⟩ := HR.out
        go_simp
        go_wp2_with (first | (go_at_call 46; refine (below_any 3 R0).mono ?_; rintro e v0_22 ⟨y3, p9, rfl, y30, y36, y3m, R9, b9⟩))
        replace H2 : Hid (Blk v0_22 g2 [.int .i64 0, .slice none 0 0]) := H2.out.beside b9 (by omega)
        replace H3 : Hid (Blk v0_22 g3 [.int .i64 x, .slice t m mc]) := H3.out.beside b9 (by omega)
        replace HS : Hid (Beside r w v0_22) := HS.out.trans b9
        replace zB : B ≤ v0_22.heap.size := Nat.le_trans zB b9.2.2.2.1
        replace HA : Hid (AlG B v0_22 (.slice t m mc) m) := HA.out.beside b9 (by omega)
        replace HR : Hid (∃ q, Rd v0_22 r s n c q) := ⟨_, R9⟩
        clear R0 R9 b9
        refine hK.out _ _ (trivial) (fun hHeld => ?_)
        clear hK KK
        refine wpAnyH_take (i := 4) (v := .int .i64 (1 + y3)) rfl (by kernel_rfl) (by kernel_rfl) (by kernel_rfl) (fun _ _ _ h => h) (Or.inl ⟨by kernel_rfl, ?_⟩) hHeld ?_
        · intro w' hSw
          first | (go_simp; done) | (go_simp; with_reducible rfl) | (go_simp; rw [IntKind.wrap_i64]; omega) | (go_simp; omega)
        simp only [Act.put, List.setIfInBounds_toArray, List.set_cons_zero, List.set_cons_succ]
        refine wpAnyH_ready (rs := [1, 5, 7]) (by kernel_rfl) (by simp) ?_
        refine (AllReadyH.cons rfl (fun KK hK => ?_) (AllReadyH.cons rfl (fun KK hK => ?_) (AllReadyH.cons rfl (fun KK hK => ?_) AllReadyH.nil)))
        · have c_ := H3.out.2.2 1 _ rfl
          have z_ := H3.out.1
          go_simp
          clear c_ z_
          refine hK.out _ _ (trivial) (fun hHeld => ?_)
          clear hK KK
          refine wpAnyH_ready (rs := [5, 7]) (by kernel_rfl) (by simp) ?_
          refine (AllReadyH.cons rfl (fun KK hK => ?_) (AllReadyH.cons rfl (fun KK hK => ?_) AllReadyH.nil))
          · go_simp
            obtain ⟨v0_24, hv_⟩ : ∃ z, z = v0_22.alloc (.cells #[.int .i64 0, .int .i64 0, .int .i64 2, .int .i64 255] 3) := ⟨_, rfl⟩
            rw [← hv_]
            obtain ⟨lt, hlt⟩ : ∃ z, z = v0_22.heap.size := ⟨_, rfl⟩
            have b_ : Below v0_22.heap.size v0_22 v0_24 := by rw [hv_]; exact below0 _ _
            have HT : Hid (Blk v0_24 lt [.int .i64 0, .int .i64 0, .int .i64 2, .int .i64 255]) := by show Blk _ _ _; rw [hv_, hlt]; exact Blk.new v0_22 #[.int .i64 0, .int .i64 0, .int .i64 2, .int .i64 255] _
            have zrt : r < lt := by obtain ⟨q_, R_⟩ := HR.out; have := R_.1; omega
            have zlB : B ≤ lt := by omega
            replace H2 : Hid (Blk v0_24 g2 [.int .i64 0, .slice none 0 0]) := H2.out.below b_
            replace H3 : Hid (Blk v0_24 g3 [.int .i64 x, .slice t m mc]) := H3.out.below b_
            replace HS : Hid (Beside r w v0_24) := HS.out.trans (Beside.of b_)
            replace zB : B ≤ v0_24.heap.size := Nat.le_trans zB b_.size
            replace HA : Hid (AlG B v0_24 (.slice t m mc) m) := HA.out.below b_
            replace HR : Hid (∃ q, Rd v0_24 r s n c q) := by obtain ⟨q_, R_⟩ := HR.out; exact ⟨q_, R_.below b_⟩
            try rw [← hlt]
            clear hv_ hlt b_
            refine hK.out _ _ (trivial) (fun hHeld => ?_)
            clear hK KK
            refine wpAnyH_ready (rs := [7]) (by kernel_rfl) (by simp) ?_
            refine (AllReadyH.cons rfl (fun KK hK => ?_) AllReadyH.nil)
            obtain ⟨q0, R0⟩ := HR.out
            go_simp
            go_wp2_with (first | (go_at_call 46; refine (below_any 4 R0).mono ?_; rintro e v0_25 ⟨y7, p9, rfl, y70, y76, y7m, R9, b9⟩))
            replace H2 : Hid (Blk v0_25 g2 [.int .i64 0, .slice none 0 0]) := H2.out.beside b9 (by omega)
            replace H3 : Hid (Blk v0_25 g3 [.int .i64 x, .slice t m mc]) := H3.out.beside b9 (by omega)
            replace HS : Hid (Beside r w v0_25) := HS.out.trans b9
            replace zB : B ≤ v0_25.heap.size := Nat.le_trans zB b9.2.2.2.1
            replace HA : Hid (AlG B v0_25 (.slice t m mc) m) := HA.out.beside b9 (by omega)
            replace HT : Hid (Blk v0_25 lt [.int .i64 0, .int .i64 0, .int .i64 2, .int .i64 255]) := HT.out.beside b9 (by omega)
            replace HR : Hid (∃ q, Rd v0_25 r s n c q) := ⟨_, R9⟩
            clear R0 R9 b9
            obtain ⟨j7, rfl⟩ : ∃ j : Nat, y7 = (j : Int) := ⟨y7.toNat, by omega⟩
            have j74 : j7 < 4 := by omega
            clear y70 y76 y7m
            refine hK.out _ _ (trivial) (fun hHeld => ?_)
            clear hK KK
            refine wpAnyH_take (i := 8) (v := .pointer (some ⟨lt, j7, none⟩)) rfl (by kernel_rfl) (by kernel_rfl) (by kernel_rfl) (fun _ _ _ h => h) (Or.inl ⟨by kernel_rfl, ?_⟩) hHeld ?_
            · intro w' hSw
              first | (go_simp; done) | (go_simp; with_reducible rfl) | (go_simp; rw [IntKind.wrap_i64]; omega) | (go_simp; omega)
            simp only [Act.put, List.setIfInBounds_toArray, List.set_cons_zero, List.set_cons_succ]
            refine wpAnyH_ready (rs := [9]) (by kernel_rfl) (by simp) ?_
            refine (AllReadyH.cons rfl (fun KK hK => ?_) AllReadyH.nil)
            obtain ⟨o7, ho7⟩ : ∃ o7 : Int, v0_25.cell? ⟨lt, j7, none⟩ = some (.int .i64 o7) := by
              have : j7 = 0 ∨ j7 = 1 ∨ j7 = 2 ∨ j7 = 3 := by omega
              rcases this with q_ | q_ | q_ | q_ <;> subst q_
              · exact ⟨_, HT.out.2.2 0 _ rfl⟩
              · exact ⟨_, HT.out.2.2 1 _ rfl⟩
              · exact ⟨_, HT.out.2.2 2 _ rfl⟩
              · exact ⟨_, HT.out.2.2 3 _ rfl⟩
            have z_ := HT.out.1
            go_simp
            clear ho7 z_ HT
            refine hK.out _ _ (trivial) (fun hHeld => ?_)
            clear hK KK
            refine wpAnyH_take (i := 10) (v := .agg #[.int .i64 (1 + y3), .int .i64 o7, .int .i64 0, .bool false, .int .i64 0]) rfl (by kernel_rfl) (by kernel_rfl) (by kernel_rfl) (fun _ _ _ h => h) (Or.inl ⟨by kernel_rfl, ?_⟩) hHeld ?_
            · intro w' hSw
              first | (go_simp; done) | (go_simp; with_reducible rfl) | (go_simp; rw [IntKind.wrap_i64]; omega) | (go_simp; omega)
            simp only [Act.put, List.setIfInBounds_toArray, List.set_cons_zero, List.set_cons_succ]
            refine wpAnyH_ready (rs := [11]) (by kernel_rfl) (by simp) ?_
            refine (AllReadyH.cons rfl (fun KK hK => ?_) AllReadyH.nil)
            go_simp
            obtain ⟨v0_27, hv_⟩ : ∃ z, z = v0_25.alloc (.cells #[.int .i64 (1 + y3), .int .i64 o7, .int .i64 0, .bool false, .int .i64 0] 43) := ⟨_, rfl⟩
            rw [← hv_]
            obtain ⟨lb, hlb⟩ : ∃ z, z = v0_25.heap.size := ⟨_, rfl⟩
            have b_ : Below v0_25.heap.size v0_25 v0_27 := by rw [hv_]; exact below0 _ _
            have HLB : Hid (∀ j u, [Value.int .i64 (1 + y3), .int .i64 o7, .int .i64 0, .bool false, .int .i64 0][j]? = some u → v0_27.cell? ((⟨lb, 0, none⟩ : Addr).add j) = some u) := by rw [hv_, hlb]; exact World.news_of_block (cs := #[.int .i64 (1 + y3), .int .i64 o7, .int .i64 0, .bool false, .int .i64 0]) (heap_alloc_new _ _)
            replace H2 : Hid (Blk v0_27 g2 [.int .i64 0, .slice none 0 0]) := H2.out.below b_
            replace H3 : Hid (Blk v0_27 g3 [.int .i64 x, .slice t m mc]) := H3.out.below b_
            replace HS : Hid (Beside r w v0_27) := HS.out.trans (Beside.of b_)
            replace zB : B ≤ v0_27.heap.size := Nat.le_trans zB b_.size
            replace HA : Hid (AlG B v0_27 (.slice t m mc) m) := HA.out.below b_
            replace HR : Hid (∃ q, Rd v0_27 r s n c q) := by obtain ⟨q_, R_⟩ := HR.out; exact ⟨q_, R_.below b_⟩
            try rw [← hlb]
            clear hv_ hlb b_
            refine hK.out _ _ (trivial) (fun hHeld => ?_)
            clear hK KK
            refine wpAnyH_ready (rs := [12]) (by kernel_rfl) (by simp) ?_
            refine (AllReadyH.cons rfl (fun KK hK => ?_) AllReadyH.nil)
            refine wp_alm HA.out (.tmp 29) (.tmp 39) (by rfl) (by rfl) lb (by rfl) HLB.out (by omega) zB ?_
            intro g9 cap9 v0_28 hc9 b9
            replace HA : Hid (AlG B v0_28 (.slice (some ⟨g9, 0, none⟩) (m + 1) cap9) (m + 1)) := hc9
            replace H2 : Hid (Blk v0_28 g2 [.int .i64 0, .slice none 0 0]) := H2.out.belowB b9 (by omega)
            replace H3 : Hid (Blk v0_28 g3 [.int .i64 x, .slice t m mc]) := H3.out.belowB b9 (by omega)
            replace HR : Hid (∃ q, Rd v0_28 r s n c q) := by obtain ⟨q_, R_⟩ := HR.out; exact ⟨q_, Rd.below' R_ (b9.mono (by omega))⟩
            replace HS : Hid (Beside r w v0_28) := HS.out.onB (b9.mono (by omega))
            replace zB : B ≤ v0_28.heap.size := Nat.le_trans zB b9.size
            clear hc9 b9 HLB
            go_simp
            refine hK.out _ _ (trivial) (fun hHeld => ?_)
            clear hK KK
            refine wpAnyH_take (i := 13) (v := .pointer (some ⟨g3, 1, none⟩)) rfl (by kernel_rfl) (by kernel_rfl) (by kernel_rfl) (fun _ _ _ h => h) (Or.inl ⟨by kernel_rfl, ?_⟩) hHeld ?_
            · intro w' hSw
              first | (go_simp; done) | (go_simp; with_reducible rfl) | (go_simp; rw [IntKind.wrap_i64]; omega) | (go_simp; omega)
            simp only [Act.put, List.setIfInBounds_toArray, List.set_cons_zero, List.set_cons_succ]
            refine wpAnyH_ready (rs := [14]) (by kernel_rfl) (by simp) ?_
            refine (AllReadyH.cons rfl (fun KK hK => ?_) AllReadyH.nil)
            have u0 := H3.out.2.2 1 _ rfl
            have f0 := H3.out.2.1 1
            have uz := H3.out.1
            have hst := store_slT
            go_simp
            obtain ⟨v0_29, hv_⟩ : ∃ z, z = v0_28.setCell ⟨g3, 1, none⟩ (.slice (some ⟨g9, 0, none⟩) (m + 1) cap9) := ⟨_, rfl⟩
            rw [← hv_]
            have b9 : Beside g3 v0_28 v0_29 := by rw [hv_]; exact Beside.setCell g3 _ 1 _
            replace H3 : Hid (Blk v0_29 g3 [.int .i64 x, .slice (some ⟨g9, 0, none⟩) (m + 1) cap9]) := by show Blk _ _ _; rw [hv_]; exact H3.out.set 1 _
            replace H2 : Hid (Blk v0_29 g2 [.int .i64 0, .slice none 0 0]) := H2.out.beside b9 (by omega)
            replace HA : Hid (AlG B v0_29 (.slice (some ⟨g9, 0, none⟩) (m + 1) cap9) (m + 1)) := HA.out.beside b9 (by omega)
            replace HR : Hid (∃ q, Rd v0_29 r s n c q) := by obtain ⟨q_, R_⟩ := HR.out; have zr_ := R_.1; exact ⟨q_, Rd.below' R_ (b9.below (by omega) (by omega))⟩
            replace HS : Hid (Beside r w v0_29) := HS.out.onB (b9.below (by omega) HS.out.2.2.2.1)
            replace zB : B ≤ v0_29.heap.size := Nat.le_trans zB b9.2.2.2.1
            clear hv_ b9
            clear u0 f0 uz hst
            refine hK.out _ _ (trivial) (fun hHeld => ?_)
            clear hK KK
            refine wpAnyH_done (by kernel_rfl) ?_ _
            clear hHeld
            go_wp2_with fail
            go_roundw
            case rel => exact ⟨k - 1, m + 1, cap9, some ⟨g9, 0, none⟩, by go_num, by omega, by omega, HR, HS, H2, H3, zB, HA⟩
            case measure => simp [intOf]; omega
          · obtain ⟨q0, R0⟩ := HR.out
            go_simp
            go_wp2_with (first | (go_at_call 46; refine (below_any 4 R0).mono ?_; rintro e v0_30 ⟨y7, p9, rfl, y70, y76, y7m, R9, b9⟩))
            replace H2 : Hid (Blk v0_30 g2 [.int .i64 0, .slice none 0 0]) := H2.out.beside b9 (by omega)
            replace H3 : Hid (Blk v0_30 g3 [.int .i64 x, .slice t m mc]) := H3.out.beside b9 (by omega)
            replace HS : Hid (Beside r w v0_30) := HS.out.trans b9
            replace zB : B ≤ v0_30.heap.size := Nat.le_trans zB b9.2.2.2.1
            replace HA : Hid (AlG B v0_30 (.slice t m mc) m) := HA.out.beside b9 (by omega)
            replace HR : Hid (∃ q, Rd v0_30 r s n c q) := ⟨_, R9⟩
            clear R0 R9 b9
            obtain ⟨j7, rfl⟩ : ∃ j : Nat, y7 = (j : Int) := ⟨y7.toNat, by omega⟩
            have j74 : j7 < 4 := by omega
            clear y70 y76 y7m
            refine hK.out _ _ (trivial) (fun hHeld => ?_)
            clear hK KK
            refine wpAnyH_ready (rs := [5]) (by kernel_rfl) (by simp) ?_
            refine (AllReadyH.cons rfl (fun KK hK => ?_) AllReadyH.nil)
            go_simp
            obtain ⟨v0_31, hv_⟩ : ∃ z, z = v0_30.alloc (.cells #[.int .i64 0, .int .i64 0, .int .i64 2, .int .i64 255] 3) := ⟨_, rfl⟩
            rw [← hv_]
            obtain ⟨lt, hlt⟩ : ∃ z, z = v0_30.heap.size := ⟨_, rfl⟩
            have b_ : Below v0_30.heap.size v0_30 v0_31 := by rw [hv_]; exact below0 _ _
            have HT : Hid (Blk v0_31 lt [.int .i64 0, .int .i64 0, .int .i64 2, .int .i64 255]) := by show Blk _ _ _; rw [hv_, hlt]; exact Blk.new v0_30 #[.int .i64 0, .int .i64 0, .int .i64 2, .int .i64 255] _
            have zrt : r < lt := by obtain ⟨q_, R_⟩ := HR.out; have := R_.1; omega
            have zlB : B ≤ lt := by omega
            replace H2 : Hid (Blk v0_31 g2 [.int .i64 0, .slice none 0 0]) := H2.out.below b_
            replace H3 : Hid (Blk v0_31 g3 [.int .i64 x, .slice t m mc]) := H3.out.below b_
            replace HS : Hid (Beside r w v0_31) := HS.out.trans (Beside.of b_)
            replace zB : B ≤ v0_31.heap.size := Nat.le_trans zB b_.size
            replace HA : Hid (AlG B v0_31 (.slice t m mc) m) := HA.out.below b_
            replace HR : Hid (∃ q, Rd v0_31 r s n c q) := by obtain ⟨q_, R_⟩ := HR.out; exact ⟨q_, R_.below b_⟩
            try rw [← hlt]
            clear hv_ hlt b_
            refine hK.out _ _ (trivial) (fun hHeld => ?_)
            clear hK KK
            refine wpAnyH_take (i := 8) (v := .pointer (some ⟨lt, j7, none⟩)) rfl (by kernel_rfl) (by kernel_rfl) (by kernel_rfl) (fun _ _ _ h => h) (Or.inl ⟨by kernel_rfl, ?_⟩) hHeld ?_
            · intro w' hSw
              first | (go_simp; done) | (go_simp; with_reducible rfl) | (go_simp; rw [IntKind.wrap_i64]; omega) | (go_simp; omega)
            simp only [Act.put, List.setIfInBounds_toArray, List.set_cons_zero, List.set_cons_succ]
            refine wpAnyH_ready (rs := [9]) (by kernel_rfl) (by simp) ?_
            refine (AllReadyH.cons rfl (fun KK hK => ?_) AllReadyH.nil)
            obtain ⟨o7, ho7⟩ : ∃ o7 : Int, v0_31.cell? ⟨lt, j7, none⟩ = some (.int .i64 o7) := by
              have : j7 = 0 ∨ j7 = 1 ∨ j7 = 2 ∨ j7 = 3 := by omega
              rcases this with q_ | q_ | q_ | q_ <;> subst q_
              · exact ⟨_, HT.out.2.2 0 _ rfl⟩
              · exact ⟨_, HT.out.2.2 1 _ rfl⟩
              · exact ⟨_, HT.out.2.2 2 _ rfl⟩
              · exact ⟨_, HT.out.2.2 3 _ rfl⟩
            have z_ := HT.out.1
            go_simp
            clear ho7 z_ HT
            refine hK.out _ _ (trivial) (fun hHeld => ?_)
            clear hK KK
            refine wpAnyH_take (i := 10) (v := .agg #[.int .i64 (1 + y3), .int .i64 o7, .int .i64 0, .bool false, .int .i64 0]) rfl (by kernel_rfl) (by kernel_rfl) (by kernel_rfl) (fun _ _ _ h => h) (Or.inl ⟨by kernel_rfl, ?_⟩) hHeld ?_
            · intro w' hSw
              first | (go_simp; done) | (go_simp; with_reducible rfl) | (go_simp; rw [IntKind.wrap_i64]; omega) | (go_simp; omega)
            simp only [Act.put, List.setIfInBounds_toArray, List.set_cons_zero, List.set_cons_succ]
            refine wpAnyH_ready (rs := [11]) (by kernel_rfl) (by simp) ?_
            refine (AllReadyH.cons rfl (fun KK hK => ?_) AllReadyH.nil)
            go_simp
            obtain ⟨v0_33, hv_⟩ : ∃ z, z = v0_31.alloc (.cells #[.int .i64 (1 + y3), .int .i64 o7, .int .i64 0, .bool false, .int .i64 0] 43) := ⟨_, rfl⟩
            rw [← hv_]
            obtain ⟨lb, hlb⟩ : ∃ z, z = v0_31.heap.size := ⟨_, rfl⟩
            have b_ : Below v0_31.heap.size v0_31 v0_33 := by rw [hv_]; exact below0 _ _
            have HLB : Hid (∀ j u, [Value.int .i64 (1 + y3), .int .i64 o7, .int .i64 0, .bool false, .int .i64 0][j]? = some u → v0_33.cell? ((⟨lb, 0, none⟩ : Addr).add j) = some u) := by rw [hv_, hlb]; exact World.news_of_block (cs := #[.int .i64 (1 + y3), .int .i64 o7, .int .i64 0, .bool false, .int .i64 0]) (heap_alloc_new _ _)
            replace H2 : Hid (Blk v0_33 g2 [.int .i64 0, .slice none 0 0]) := H2.out.below b_
            replace H3 : Hid (Blk v0_33 g3 [.int .i64 x, .slice t m mc]) := H3.out.below b_
            replace HS : Hid (Beside r w v0_33) := HS.out.trans (Beside.of b_)
            replace zB : B ≤ v0_33.heap.size := Nat.le_trans zB b_.size
            replace HA : Hid (AlG B v0_33 (.slice t m mc) m) := HA.out.below b_
            replace HR : Hid (∃ q, Rd v0_33 r s n c q) := by obtain ⟨q_, R_⟩ := HR.out; exact ⟨q_, R_.below b_⟩
            try rw [← hlb]
            clear hv_ hlb b_
            refine hK.out _ _ (trivial) (fun hHeld => ?_)
            clear hK KK
            refine wpAnyH_ready (rs := [12]) (by kernel_rfl) (by simp) ?_
            refine (AllReadyH.cons rfl (fun KK hK => ?_) AllReadyH.nil)
            refine wp_alm HA.out (.tmp 29) (.tmp 39) (by rfl) (by rfl) lb (by rfl) HLB.out (by omega) zB ?_
            intro g9 cap9 v0_34 hc9 b9
            replace HA : Hid (AlG B v0_34 (.slice (some ⟨g9, 0, none⟩) (m + 1) cap9) (m + 1)) := hc9
            replace H2 : Hid (Blk v0_34 g2 [.int .i64 0, .slice none 0 0]) := H2.out.belowB b9 (by omega)
            replace H3 : Hid (Blk v0_34 g3 [.int .i64 x, .slice t m mc]) := H3.out.belowB b9 (by omega)
            replace HR : Hid (∃ q, Rd v0_34 r s n c q) := by obtain ⟨q_, R_⟩ := HR.out; exact ⟨q_, Rd.below' R_ (b9.mono (by omega))⟩
            replace HS : Hid (Beside r w v0_34) := HS.out.onB (b9.mono (by omega))
            replace zB : B ≤ v0_34.heap.size := Nat.le_trans zB b9.size
            clear hc9 b9 HLB
            go_simp
            refine hK.out _ _ (trivial) (fun hHeld => ?_)
            clear hK KK
            refine wpAnyH_take (i := 13) (v := .pointer (some ⟨g3, 1, none⟩)) rfl (by kernel_rfl) (by kernel_rfl) (by kernel_rfl) (fun _ _ _ h => h) (Or.inl ⟨by kernel_rfl, ?_⟩) hHeld ?_
            · intro w' hSw
              first | (go_simp; done) | (go_simp; with_reducible rfl) | (go_simp; rw [IntKind.wrap_i64]; omega) | (go_simp; omega)
            simp only [Act.put, List.setIfInBounds_toArray, List.set_cons_zero, List.set_cons_succ]
            refine wpAnyH_ready (rs := [14]) (by kernel_rfl) (by simp) ?_
            refine (AllReadyH.cons rfl (fun KK hK => ?_) AllReadyH.nil)
            have u0 := H3.out.2.2 1 _ rfl
            have f0 := H3.out.2.1 1
            have uz := H3.out.1
            have hst := store_slT
            go_simp
            obtain ⟨v0_35, hv_⟩ : ∃ z, z = v0_34.setCell ⟨g3, 1, none⟩ (.slice (some ⟨g9, 0, none⟩) (m + 1) cap9) := ⟨_, rfl⟩
            rw [← hv_]
            have b9 : Beside g3 v0_34 v0_35 := by rw [hv_]; exact Beside.setCell g3 _ 1 _
            replace H3 : Hid (Blk v0_35 g3 [.int .i64 x, .slice (some ⟨g9, 0, none⟩) (m + 1) cap9]) := by show Blk _ _ _; rw [hv_]; exact H3.out.set 1 _
            replace H2 : Hid (Blk v0_35 g2 [.int .i64 0, .slice none 0 0]) := H2.out.beside b9 (by omega)
            replace HA : Hid (AlG B v0_35 (.slice (some ⟨g9, 0, none⟩) (m + 1) cap9) (m + 1)) := HA.out.beside b9 (by omega)
            replace HR : Hid (∃ q, Rd v0_35 r s n c q) := by obtain ⟨q_, R_⟩ := HR.out; have zr_ := R_.1; exact ⟨q_, Rd.below' R_ (b9.below (by omega) (by omega))⟩
            replace HS : Hid (Beside r w v0_35) := HS.out.onB (b9.below (by omega) HS.out.2.2.2.1)
            replace zB : B ≤ v0_35.heap.size := Nat.le_trans zB b9.2.2.2.1
            clear hv_ b9
            clear u0 f0 uz hst
            refine hK.out _ _ (trivial) (fun hHeld => ?_)
            clear hK KK
            refine wpAnyH_done (by kernel_rfl) ?_ _
            clear hHeld
            go_wp2_with fail
            go_roundw
            case rel => exact ⟨k - 1, m + 1, cap9, some ⟨g9, 0, none⟩, by go_num, by omega, by omega, HR, HS, H2, H3, zB, HA⟩
            case measure => simp [intOf]; omega
        · go_simp
          obtain ⟨v0_36, hv_⟩ : ∃ z, z = v0_22.alloc (.cells #[.int .i64 0, .int .i64 0, .int .i64 2, .int .i64 255] 3) := ⟨_, rfl⟩
          rw [← hv_]
          obtain ⟨lt, hlt⟩ : ∃ z, z = v0_22.heap.size := ⟨_, rfl⟩
          have b_ : Below v0_22.heap.size v0_22 v0_36 := by rw [hv_]; exact below0 _ _
          have HT : Hid (Blk v0_36 lt [.int .i64 0, .int .i64 0, .int .i64 2, .int .i64 255]) := by show Blk _ _ _; rw [hv_, hlt]; exact Blk.new v0_22 #[.int .i64 0, .int .i64 0, .int .i64 2, .int .i64 255] _
          have zrt : r < lt := by obtain ⟨q_, R_⟩ := HR.out; have := R_.1; omega
          have zlB : B ≤ lt := by omega
          replace H2 : Hid (Blk v0_36 g2 [.int .i64 0, .slice none 0 0]) := H2.out.below b_
          replace H3 : Hid (Blk v0_36 g3 [.int .i64 x, .slice t m mc]) := H3.out.below b_
          replace HS : Hid (Beside r w v0_36) := HS.out.trans (Beside.of b_)
          replace zB : B ≤ v0_36.heap.size := Nat.le_trans zB b_.size
          replace HA : Hid (AlG B v0_36 (.slice t m mc) m) := HA.out.below b_
          replace HR : Hid (∃ q, Rd v0_36 r s n c q) := by obtain ⟨q_, R_⟩ := HR.out; exact ⟨q_, R_.below b_⟩
          try rw [← hlt]
          clear hv_ hlt b_
          refine hK.out _ _ (trivial) (fun hHeld => ?_)
          clear hK KK
          refine wpAnyH_ready (rs := [1, 7]) (by kernel_rfl) (by simp) ?_
          refine (AllReadyH.cons rfl (fun KK hK => ?_) (AllReadyH.cons rfl (fun KK hK => ?_) AllReadyH.nil))
          · have c_ := H3.out.2.2 1 _ rfl
            have z_ := H3.out.1
            go_simp
            clear c_ z_
            refine hK.out _ _ (trivial) (fun hHeld => ?_)
            clear hK KK
            refine wpAnyH_ready (rs := [7]) (by kernel_rfl) (by simp) ?_
            refine (AllReadyH.cons rfl (fun KK hK => ?_) AllReadyH.nil)
            obtain ⟨q0, R0⟩ := HR.out
            go_simp
            go_wp2_with (first | (go_at_call 46; refine (below_any 4 R0).mono ?_; rintro e v0_38 ⟨y7, p9, rfl, y70, y76, y7m, R9, b9⟩))
            replace H2 : Hid (Blk v0_38 g2 [.int .i64 0, .slice none 0 0]) := H2.out.beside b9 (by omega)
            replace H3 : Hid (Blk v0_38 g3 [.int .i64 x, .slice t m mc]) := H3.out.beside b9 (by omega)
            replace HS : Hid (Beside r w v0_38) := HS.out.trans b9
            replace zB : B ≤ v0_38.heap.size := Nat.le_trans zB b9.2.2.2.1
            replace HA : Hid (AlG B v0_38 (.slice t m mc) m) := HA.out.beside b9 (by omega)
            replace HT : Hid (Blk v0_38 lt [.int .i64 0, .int .i64 0, .int .i64 2, .int .i64 255]) := HT.out.beside b9 (by omega)
            replace HR : Hid (∃ q, Rd v0_38 r s n c q) := ⟨_, R9⟩
            clear R0 R9 b9
            obtain ⟨j7, rfl⟩ : ∃ j : Nat, y7 = (j : Int) := ⟨y7.toNat, by omega⟩
            have j74 : j7 < 4 := by omega
            clear y70 y76 y7m
            refine hK.out _ _ (trivial) (fun hHeld => ?_)
            clear hK KK
            refine wpAnyH_take (i := 8) (v := .pointer (some ⟨lt, j7, none⟩)) rfl (by kernel_rfl) (by kernel_rfl) (by kernel_rfl) (fun _ _ _ h => h) (Or.inl ⟨by kernel_rfl, ?_⟩) hHeld ?_
            · intro w' hSw
              first | (go_simp; done) | (go_simp; with_reducible rfl) | (go_simp; rw [IntKind.wrap_i64]; omega) | (go_simp; omega)
            simp only [Act.put, List.setIfInBounds_toArray, List.set_cons_zero, List.set_cons_succ]
            refine wpAnyH_ready (rs := [9]) (by kernel_rfl) (by simp) ?_
            refine (AllReadyH.cons rfl (fun KK hK => ?_) AllReadyH.nil)
            obtain ⟨o7, ho7⟩ : ∃ o7 : Int, v0_38.cell? ⟨lt, j7, none⟩ = some (.int .i64 o7) := by
              have : j7 = 0 ∨ j7 = 1 ∨ j7 = 2 ∨ j7 = 3 := by omega
              rcases this with q_ | q_ | q_ | q_ <;> subst q_
              · exact ⟨_, HT.out.2.2 0 _ rfl⟩
              · exact ⟨_, HT.out.2.2 1 _ rfl⟩
              · exact ⟨_, HT.out.2.2 2 _ rfl⟩
              · exact ⟨_, HT.out.2.2 3 _ rfl⟩
            have z_ := HT.out.1
            go_simp
            clear ho7 z_ HT
            refine hK.out _ _ (trivial) (fun hHeld => ?_)
            clear hK KK
            refine wpAnyH_take (i := 10) (v := .agg #[.int .i64 (1 + y3), .int .i64 o7, .int .i64 0, .bool false, .int .i64 0]) rfl (by kernel_rfl) (by kernel_rfl) (by kernel_rfl) (fun _ _ _ h => h) (Or.inl ⟨by kernel_rfl, ?_⟩) hHeld ?_
            · intro w' hSw
              first | (go_simp; done) | (go_simp; with_reducible rfl) | (go_simp; rw [IntKind.wrap_i64]; omega) | (go_simp; omega)
            simp only [Act.put, List.setIfInBounds_toArray, List.set_cons_zero, List.set_cons_succ]
            refine wpAnyH_ready (rs := [11]) (by kernel_rfl) (by simp) ?_
            refine (AllReadyH.cons rfl (fun KK hK => ?_) AllReadyH.nil)
            go_simp
            obtain ⟨v0_40, hv_⟩ : ∃ z, z = v0_38.alloc (.cells #[.int .i64 (1 + y3), .int .i64 o7, .int .i64 0, .bool false, .int .i64 0] 43) := ⟨_, rfl⟩
            rw [← hv_]
            obtain ⟨lb, hlb⟩ : ∃ z, z = v0_38.heap.size := ⟨_, rfl⟩
            have b_ : Below v0_38.heap.size v0_38 v0_40 := by rw [hv_]; exact below0 _ _
            have HLB : Hid (∀ j u, [Value.int .i64 (1 + y3), .int .i64 o7, .int .i64 0, .bool false, .int .i64 0][j]? = some u → v0_40.cell? ((⟨lb, 0, none⟩ : Addr).add j) = some u) := by rw [hv_, hlb]; exact World.news_of_block (cs := #[.int .i64 (1 + y3), .int .i64 o7, .int .i64 0, .bool false, .int .i64 0]) (heap_alloc_new _ _)
            replace H2 : Hid (Blk v0_40 g2 [.int .i64 0, .slice none 0 0]) := H2.out.below b_
            replace H3 : Hid (Blk v0_40 g3 [.int .i64 x, .slice t m mc]) := H3.out.below b_
            replace HS : Hid (Beside r w v0_40) := HS.out.trans (Beside.of b_)
            replace zB : B ≤ v0_40.heap.size := Nat.le_trans zB b_.size
            replace HA : Hid (AlG B v0_40 (.slice t m mc) m) := HA.out.below b_
            replace HR : Hid (∃ q, Rd v0_40 r s n c q) := by obtain ⟨q_, R_⟩ := HR.out; exact ⟨q_, R_.below b_⟩
            try rw [← hlb]
            clear hv_ hlb b_
            refine hK.out _ _ (trivial) (fun hHeld => ?_)
            clear hK KK
            refine wpAnyH_ready (rs := [12]) (by kernel_rfl) (by simp) ?_
            refine (AllReadyH.cons rfl (fun KK hK => ?_) AllReadyH.nil)
            refine wp_alm HA.out (.tmp 29) (.tmp 39) (by rfl) (by rfl) lb (by rfl) HLB.out (by omega) zB ?_
            intro g9 cap9 v0_41 hc9 b9
            replace HA : Hid (AlG B v0_41 (.slice (some ⟨g9, 0, none⟩) (m + 1) cap9) (m + 1)) := hc9
            replace H2 : Hid (Blk v0_41 g2 [.int .i64 0, .slice none 0 0]) := H2.out.belowB b9 (by omega)
            replace H3 : Hid (Blk v0_41 g3 [.int .i64 x, .slice t m mc]) := H3.out.belowB b9 (by omega)
            replace HR : Hid (∃ q, Rd v0_41 r s n c q) := by obtain ⟨q_, R_⟩ := HR.out; exact ⟨q_, Rd.below' R_ (b9.mono (by omega))⟩
            replace HS : Hid (Beside r w v0_41) := HS.out.onB (b9.mono (by omega))
            replace zB : B ≤ v0_41.heap.size := Nat.le_trans zB b9.size
            clear hc9 b9 HLB
            go_simp
            refine hK.out _ _ (trivial) (fun hHeld => ?_)
            clear hK KK
            refine wpAnyH_take (i := 13) (v := .pointer (some ⟨g3, 1, none⟩)) rfl (by kernel_rfl) (by kernel_rfl) (by kernel_rfl) (fun _ _ _ h => h) (Or.inl ⟨by kernel_rfl, ?_⟩) hHeld ?_
            · intro w' hSw
              first | (go_simp; done) | (go_simp; with_reducible rfl) | (go_simp; rw [IntKind.wrap_i64]; omega) | (go_simp; omega)
            simp only [Act.put, List.setIfInBounds_toArray, List.set_cons_zero, List.set_cons_succ]
            refine wpAnyH_ready (rs := [14]) (by kernel_rfl) (by simp) ?_
            refine (AllReadyH.cons rfl (fun KK hK => ?_) AllReadyH.nil)
            have u0 := H3.out.2.2 1 _ rfl
            have f0 := H3.out.2.1 1
            have uz := H3.out.1
            have hst := store_slT
            go_simp
            obtain ⟨v0_42, hv_⟩ : ∃ z, z = v0_41.setCell ⟨g3, 1, none⟩ (.slice (some ⟨g9, 0, none⟩) (m + 1) cap9) := ⟨_, rfl⟩
            rw [← hv_]
            have b9 : Beside g3 v0_41 v0_42 := by rw [hv_]; exact Beside.setCell g3 _ 1 _
            replace H3 : Hid (Blk v0_42 g3 [.int .i64 x, .slice (some ⟨g9, 0, none⟩) (m + 1) cap9]) := by show Blk _ _ _; rw [hv_]; exact H3.out.set 1 _
            replace H2 : Hid (Blk v0_42 g2 [.int .i64 0, .slice none 0 0]) := H2.out.beside b9 (by omega)
            replace HA : Hid (AlG B v0_42 (.slice (some ⟨g9, 0, none⟩) (m + 1) cap9) (m + 1)) := HA.out.beside b9 (by omega)
            replace HR : Hid (∃ q, Rd v0_42 r s n c q) := by obtain ⟨q_, R_⟩ := HR.out; have zr_ := R_.1; exact ⟨q_, Rd.below' R_ (b9.below (by omega) (by omega))⟩
            replace HS : Hid (Beside r w v0_42) := HS.out.onB (b9.below (by omega) HS.out.2.2.2.1)
            replace zB : B ≤ v0_42.heap.size := Nat.le_trans zB b9.2.2.2.1
            clear hv_ b9
            clear u0 f0 uz hst
            refine hK.out _ _ (trivial) (fun hHeld => ?_)
            clear hK KK
            refine wpAnyH_done (by kernel_rfl) ?_ _
            clear hHeld
            go_wp2_with fail
            go_roundw
            case rel => exact ⟨k - 1, m + 1, cap9, some ⟨g9, 0, none⟩, by go_num, by omega, by omega, HR, HS, H2, H3, zB, HA⟩
            case measure => simp [intOf]; omega
          · obtain ⟨q0, R0⟩ := HR.out
            go_simp
            go_wp2_with (first | (go_at_call 46; refine (below_any 4 R0).mono ?_; rintro e v0_43 ⟨y7, p9, rfl, y70, y76, y7m, R9, b9⟩))
            replace H2 : Hid (Blk v0_43 g2 [.int .i64 0, .slice none 0 0]) := H2.out.beside b9 (by omega)
            replace H3 : Hid (Blk v0_43 g3 [.int .i64 x, .slice t m mc]) := H3.out.beside b9 (by omega)
            replace HS : Hid (Beside r w v0_43) := HS.out.trans b9
            replace zB : B ≤ v0_43.heap.size := Nat.le_trans zB b9.2.2.2.1
            replace HA : Hid (AlG B v0_43 (.slice t m mc) m) := HA.out.beside b9 (by omega)
            replace HT : Hid (Blk v0_43 lt [.int .i64 0, .int .i64 0, .int .i64 2, .int .i64 255]) := HT.out.beside b9 (by omega)
            replace HR : Hid (∃ q, Rd v0_43 r s n c q) := ⟨_, R9⟩
            clear R0 R9 b9
            obtain ⟨j7, rfl⟩ : ∃ j : Nat, y7 = (j : Int) := ⟨y7.toNat, by omega⟩
            have j74 : j7 < 4 := by omega
            clear y70 y76 y7m
            refine hK.out _ _ (trivial) (fun hHeld => ?_)
            clear hK KK
            refine wpAnyH_take (i := 8) (v := .pointer (some ⟨lt, j7, none⟩)) rfl (by kernel_rfl) (by kernel_rfl) (by kernel_rfl) (fun _ _ _ h => h) (Or.inl ⟨by kernel_rfl, ?_⟩) hHeld ?_
            · intro w' hSw
              first | (go_simp; done) | (go_simp; with_reducible rfl) | (go_simp; rw [IntKind.wrap_i64]; omega) | (go_simp; omega)
            simp only [Act.put, List.setIfInBounds_toArray, List.set_cons_zero, List.set_cons_succ]
            refine wpAnyH_ready (rs := [1, 9]) (by kernel_rfl) (by simp) ?_
            refine (AllReadyH.cons rfl (fun KK hK => ?_) (AllReadyH.cons rfl (fun KK hK => ?_) AllReadyH.nil))
            · have c_ := H3.out.2.2 1 _ rfl
              have z_ := H3.out.1
              go_simp
              clear c_ z_
              refine hK.out _ _ (trivial) (fun hHeld => ?_)
              clear hK KK
              refine wpAnyH_ready (rs := [9]) (by kernel_rfl) (by simp) ?_
              refine (AllReadyH.cons rfl (fun KK hK => ?_) AllReadyH.nil)
              obtain ⟨o7, ho7⟩ : ∃ o7 : Int, v0_43.cell? ⟨lt, j7, none⟩ = some (.int .i64 o7) := by
                have : j7 = 0 ∨ j7 = 1 ∨ j7 = 2 ∨ j7 = 3 := by omega
                rcases this with q_ | q_ | q_ | q_ <;> subst q_
                · exact ⟨_, HT.out.2.2 0 _ rfl⟩
                · exact ⟨_, HT.out.2.2 1 _ rfl⟩
                · exact ⟨_, HT.out.2.2 2 _ rfl⟩
                · exact ⟨_, HT.out.2.2 3 _ rfl⟩
              have z_ := HT.out.1
              go_simp
              clear ho7 z_ HT
              refine hK.out _ _ (trivial) (fun hHeld => ?_)
              clear hK KK
              refine wpAnyH_take (i := 10) (v := .agg #[.int .i64 (1 + y3), .int .i64 o7, .int .i64 0, .bool false, .int .i64 0]) rfl (by kernel_rfl) (by kernel_rfl) (by kernel_rfl) (fun _ _ _ h => h) (Or.inl ⟨by kernel_rfl, ?_⟩) hHeld ?_
              · intro w' hSw
                first | (go_simp; done) | (go_simp; with_reducible rfl) | (go_simp; rw [IntKind.wrap_i64]; omega) | (go_simp; omega)
              simp only [Act.put, List.setIfInBounds_toArray, List.set_cons_zero, List.set_cons_succ]
              refine wpAnyH_ready (rs := [11]) (by kernel_rfl) (by simp) ?_
              refine (AllReadyH.cons rfl (fun KK hK => ?_) AllReadyH.nil)
              go_simp
              obtain ⟨v0_46, hv_⟩ : ∃ z, z = v0_43.alloc (.cells #[.int .i64 (1 + y3), .int .i64 o7, .int .i64 0, .bool false, .int .i64 0] 43) := ⟨_, rfl⟩
              rw [← hv_]
              obtain ⟨lb, hlb⟩ : ∃ z, z = v0_43.heap.size := ⟨_, rfl⟩
              have b_ : Below v0_43.heap.size v0_43 v0_46 := by rw [hv_]; exact below0 _ _
              have HLB : Hid (∀ j u, [Value.int .i64 (1 + y3), .int .i64 o7, .int .i64 0, .bool false, .int .i64 0][j]? = some u → v0_46.cell? ((⟨lb, 0, none⟩ : Addr).add j) = some u) := by rw [hv_, hlb]; exact World.news_of_block (cs := #[.int .i64 (1 + y3), .int .i64 o7, .int .i64 0, .bool false, .int .i64 0]) (heap_alloc_new _ _)
              replace H2 : Hid (Blk v0_46 g2 [.int .i64 0, .slice none 0 0]) := H2.out.below b_
              replace H3 : Hid (Blk v0_46 g3 [.int .i64 x, .slice t m mc]) := H3.out.below b_
              replace HS : Hid (Beside r w v0_46) := HS.out.trans (Beside.of b_)
              replace zB : B ≤ v0_46.heap.size := Nat.le_trans zB b_.size
              replace HA : Hid (AlG B v0_46 (.slice t m mc) m) := HA.out.below b_
              replace HR : Hid (∃ q, Rd v0_46 r s n c q) := by obtain ⟨q_, R_⟩ := HR.out; exact ⟨q_, R_.below b_⟩
              try rw [← hlb]
              clear hv_ hlb b_
              refine hK.out _ _ (trivial) (fun hHeld => ?_)
              clear hK KK
              refine wpAnyH_ready (rs := [12]) (by kernel_rfl) (by simp) ?_
              refine (AllReadyH.cons rfl (fun KK hK => ?_) AllReadyH.nil)
              refine wp_alm HA.out (.tmp 29) (.tmp 39) (by rfl) (by rfl) lb (by rfl) HLB.out (by omega) zB ?_
              intro g9 cap9 v0_47 hc9 b9
              replace HA : Hid (AlG B v0_47 (.slice (some ⟨g9, 0, none⟩) (m + 1) cap9) (m + 1)) := hc9
              replace H2 : Hid (Blk v0_47 g2 [.int .i64 0, .slice none 0 0]) := H2.out.belowB b9 (by omega)
              replace H3 : Hid (Blk v0_47 g3 [.int .i64 x, .slice t m mc]) := H3.out.belowB b9 (by omega)
              replace HR : Hid (∃ q, Rd v0_47 r s n c q) := by obtain ⟨q_, R_⟩ := HR.out; exact ⟨q_, Rd.below' R_ (b9.mono (by omega))⟩
              replace HS : Hid (Beside r w v0_47) := HS.out.onB (b9.mono (by omega))
              replace zB : B ≤ v0_47.heap.size := Nat.le_trans zB b9.size
              clear hc9 b9 HLB
              go_simp
              refine hK.out _ _ (trivial) (fun hHeld => ?_)
              clear hK KK
              refine wpAnyH_take (i := 13) (v := .pointer (some ⟨g3, 1, none⟩)) rfl (by kernel_rfl) (by kernel_rfl) (by kernel_rfl) (fun _ _ _ h => h) (Or.inl ⟨by kernel_rfl, ?_⟩) hHeld ?_
              · intro w' hSw
                first | (go_simp; done) | (go_simp; with_reducible rfl) | (go_simp; rw [IntKind.wrap_i64]; omega) | (go_simp; omega)
              simp only [Act.put, List.setIfInBounds_toArray, List.set_cons_zero, List.set_cons_succ]
              refine wpAnyH_ready (rs := [14]) (by kernel_rfl) (by simp) ?_
              refine (AllReadyH.cons rfl (fun KK hK => ?_) AllReadyH.nil)
              have u0 := H3.out.2.2 1 _ rfl
              have f0 := H3.out.2.1 1
              have uz := H3.out.1
              have hst := store_slT
              go_simp
              obtain ⟨v0_48, hv_⟩ : ∃ z, z = v0_47.setCell ⟨g3, 1, none⟩ (.slice (some ⟨g9, 0, none⟩) (m + 1) cap9) := ⟨_, rfl⟩
              rw [← hv_]
              have b9 : Beside g3 v0_47 v0_48 := by rw [hv_]; exact Beside.setCell g3 _ 1 _
              replace H3 : Hid (Blk v0_48 g3 [.int .i64 x, .slice (some ⟨g9, 0, none⟩) (m + 1) cap9]) := by show Blk _ _ _; rw [hv_]; exact H3.out.set 1 _
              replace H2 : Hid (Blk v0_48 g2 [.int .i64 0, .slice none 0 0]) := H2.out.beside b9 (by omega)
              replace HA : Hid (AlG B v0_48 (.slice (some ⟨g9, 0, none⟩) (m + 1) cap9) (m + 1)) := HA.out.beside b9 (by omega)
              replace HR : Hid (∃ q, Rd v0_48 r s n c q) := by obtain ⟨q_, R_⟩ := HR.out; have zr_ := R_.1; exact ⟨q_, Rd.below' R_ (b9.below (by omega) (by omega))⟩
              replace HS : Hid (Beside r w v0_48) := HS.out.onB (b9.below (by omega) HS.out.2.2.2.1)
              replace zB : B ≤ v0_48.heap.size := Nat.le_trans zB b9.2.2.2.1
              clear hv_ b9
              clear u0 f0 uz hst
              refine hK.out _ _ (trivial) (fun hHeld => ?_)
              clear hK KK
              refine wpAnyH_done (by kernel_rfl) ?_ _
              clear hHeld
              go_wp2_with fail
              go_roundw
              case rel => exact ⟨k - 1, m + 1, cap9, some ⟨g9, 0, none⟩, by go_num, by omega, by omega, HR, HS, H2, H3, zB, HA⟩
              case measure => simp [intOf]; omega
            · obtain ⟨o7, ho7⟩ : ∃ o7 : Int, v0_43.cell? ⟨lt, j7, none⟩ = some (.int .i64 o7) := by
                have : j7 = 0 ∨ j7 = 1 ∨ j7 = 2 ∨ j7 = 3 := by omega
                rcases this with q_ | q_ | q_ | q_ <;> subst q_
                · exact ⟨_, HT.out.2.2 0 _ rfl⟩
                · exact ⟨_, HT.out.2.2 1 _ rfl⟩
                · exact ⟨_, HT.out.2.2 2 _ rfl⟩
                · exact ⟨_, HT.out.2.2 3 _ rfl⟩
              have z_ := HT.out.1
              go_simp
              clear ho7 z_ HT
              refine hK.out _ _ (trivial) (fun hHeld => ?_)
              clear hK KK
              refine wpAnyH_take (i := 10) (v := .agg #[.int .i64 (1 + y3), .int .i64 o7, .int .i64 0, .bool false, .int .i64 0]) rfl (by kernel_rfl) (by kernel_rfl) (by kernel_rfl) (fun _ _ _ h => h) (Or.inl ⟨by kernel_rfl, ?_⟩) hHeld ?_
              · intro w' hSw
                first | (go_simp; done) | (go_simp; with_reducible rfl) | (go_simp; rw [IntKind.wrap_i64]; omega) | (go_simp; omega)
              simp only [Act.put, List.setIfInBounds_toArray, List.set_cons_zero, List.set_cons_succ]
              refine wpAnyH_ready (rs := [1, 11]) (by kernel_rfl) (by simp) ?_
              refine (AllReadyH.cons rfl (fun KK hK => ?_) (AllReadyH.cons rfl (fun KK hK => ?_) AllReadyH.nil))
              · have c_ := H3.out.2.2 1 _ rfl
                have z_ := H3.out.1
                go_simp
                clear c_ z_
                refine hK.out _ _ (trivial) (fun hHeld => ?_)
                clear hK KK
                refine wpAnyH_ready (rs := [11]) (by kernel_rfl) (by simp) ?_
                refine (AllReadyH.cons rfl (fun KK hK => ?_) AllReadyH.nil)
                go_simp
                obtain ⟨v0_51, hv_⟩ : ∃ z, z = v0_43.alloc (.cells #[.int .i64 (1 + y3), .int .i64 o7, .int .i64 0, .bool false, .int .i64 0] 43) := ⟨_, rfl⟩
                rw [← hv_]
                obtain ⟨lb, hlb⟩ : ∃ z, z = v0_43.heap.size := ⟨_, rfl⟩
                have b_ : Below v0_43.heap.size v0_43 v0_51 := by rw [hv_]; exact below0 _ _
                have HLB : Hid (∀ j u, [Value.int .i64 (1 + y3), .int .i64 o7, .int .i64 0, .bool false, .int .i64 0][j]? = some u → v0_51.cell? ((⟨lb, 0, none⟩ : Addr).add j) = some u) := by rw [hv_, hlb]; exact World.news_of_block (cs := #[.int .i64 (1 + y3), .int .i64 o7, .int .i64 0, .bool false, .int .i64 0]) (heap_alloc_new _ _)
                replace H2 : Hid (Blk v0_51 g2 [.int .i64 0, .slice none 0 0]) := H2.out.below b_
                replace H3 : Hid (Blk v0_51 g3 [.int .i64 x, .slice t m mc]) := H3.out.below b_
                replace HS : Hid (Beside r w v0_51) := HS.out.trans (Beside.of b_)
                replace zB : B ≤ v0_51.heap.size := Nat.le_trans zB b_.size
                replace HA : Hid (AlG B v0_51 (.slice t m mc) m) := HA.out.below b_
                replace HR : Hid (∃ q, Rd v0_51 r s n c q) := by obtain ⟨q_, R_⟩ := HR.out; exact ⟨q_, R_.below b_⟩
                try rw [← hlb]
                clear hv_ hlb b_
                refine hK.out _ _ (trivial) (fun hHeld => ?_)
                clear hK KK
                refine wpAnyH_ready (rs := [12]) (by kernel_rfl) (by simp) ?_
                refine (AllReadyH.cons rfl (fun KK hK => ?_) AllReadyH.nil)
                refine wp_alm HA.out (.tmp 29) (.tmp 39) (by rfl) (by rfl) lb (by rfl) HLB.out (by omega) zB ?_
                intro g9 cap9 v0_52 hc9 b9
                replace HA : Hid (AlG B v0_52 (.slice (some ⟨g9, 0, none⟩) (m + 1) cap9) (m + 1)) := hc9
                replace H2 : Hid (Blk v0_52 g2 [.int .i64 0, .slice none 0 0]) := H2.out.belowB b9 (by omega)
                replace H3 : Hid (Blk v0_52 g3 [.int .i64 x, .slice t m mc]) := H3.out.belowB b9 (by omega)
                replace HR : Hid (∃ q, Rd v0_52 r s n c q) := by obtain ⟨q_, R_⟩ := HR.out; exact ⟨q_, Rd.below' R_ (b9.mono (by omega))⟩
                replace HS : Hid (Beside r w v0_52) := HS.out.onB (b9.mono (by omega))
                replace zB : B ≤ v0_52.heap.size := Nat.le_trans zB b9.size
                clear hc9 b9 HLB
                go_simp
                refine hK.out _ _ (trivial) (fun hHeld => ?_)
                clear hK KK
                refine wpAnyH_take (i := 13) (v := .pointer (some ⟨g3, 1, none⟩)) rfl (by kernel_rfl) (by kernel_rfl) (by kernel_rfl) (fun _ _ _ h => h) (Or.inl ⟨by kernel_rfl, ?_⟩) hHeld ?_
                · intro w' hSw
                  first | (go_simp; done) | (go_simp; with_reducible rfl) | (go_simp; rw [IntKind.wrap_i64]; omega) | (go_simp; omega)
                simp only [Act.put, List.setIfInBounds_toArray, List.set_cons_zero, List.set_cons_succ]
                refine wpAnyH_ready (rs := [14]) (by kernel_rfl) (by simp) ?_
                refine (AllReadyH.cons rfl (fun KK hK => ?_) AllReadyH.nil)
                have u0 := H3.out.2.2 1 _ rfl
                have f0 := H3.out.2.1 1
                have uz := H3.out.1
                have hst := store_slT
                go_simp
                obtain ⟨v0_53, hv_⟩ : ∃ z, z = v0_52.setCell ⟨g3, 1, none⟩ (.slice (some ⟨g9, 0, none⟩) (m + 1) cap9) := ⟨_, rfl⟩
                rw [← hv_]
                have b9 : Beside g3 v0_52 v0_53 := by rw [hv_]; exact Beside.setCell g3 _ 1 _
                replace H3 : Hid (Blk v0_53 g3 [.int .i64 x, .slice (some ⟨g9, 0, none⟩) (m + 1) cap9]) := by show Blk _ _ _; rw [hv_]; exact H3.out.set 1 _
                replace H2 : Hid (Blk v0_53 g2 [.int .i64 0, .slice none 0 0]) := H2.out.beside b9 (by omega)
                replace HA : Hid (AlG B v0_53 (.slice (some ⟨g9, 0, none⟩) (m + 1) cap9) (m + 1)) := HA.out.beside b9 (by omega)
                replace HR : Hid (∃ q, Rd v0_53 r s n c q) := by obtain ⟨q_, R_⟩ := HR.out; have zr_ := R_.1; exact ⟨q_, Rd.below' R_ (b9.below (by omega) (by omega))⟩
                replace HS : Hid (Beside r w v0_53) := HS.out.onB (b9.below (by omega) HS.out.2.2.2.1)
                replace zB : B ≤ v0_53.heap.size := Nat.le_trans zB b9.2.2.2.1
                clear hv_ b9
                clear u0 f0 uz hst
                refine hK.out _ _ (trivial) (fun hHeld => ?_)
                clear hK KK
                refine wpAnyH_done (by kernel_rfl) ?_ _
                clear hHeld
                go_wp2_with fail
                go_roundw
                case rel => exact ⟨k - 1, m + 1, cap9, some ⟨g9, 0, none⟩, by go_num, by omega, by omega, HR, HS, H2, H3, zB, HA⟩
                case measure => simp [intOf]; omega
              · go_simp
                obtain ⟨v0_54, hv_⟩ : ∃ z, z = v0_43.alloc (.cells #[.int .i64 (1 + y3), .int .i64 o7, .int .i64 0, .bool false, .int .i64 0] 43) := ⟨_, rfl⟩
                rw [← hv_]
                obtain ⟨lb, hlb⟩ : ∃ z, z = v0_43.heap.size := ⟨_, rfl⟩
                have b_ : Below v0_43.heap.size v0_43 v0_54 := by rw [hv_]; exact below0 _ _
                have HLB : Hid (∀ j u, [Value.int .i64 (1 + y3), .int .i64 o7, .int .i64 0, .bool false, .int .i64 0][j]? = some u → v0_54.cell? ((⟨lb, 0, none⟩ : Addr).add j) = some u) := by rw [hv_, hlb]; exact World.news_of_block (cs := #[.int .i64 (1 + y3), .int .i64 o7, .int .i64 0, .bool false, .int .i64 0]) (heap_alloc_new _ _)
                replace H2 : Hid (Blk v0_54 g2 [.int .i64 0, .slice none 0 0]) := H2.out.below b_
                replace H3 : Hid (Blk v0_54 g3 [.int .i64 x, .slice t m mc]) := H3.out.below b_
                replace HS : Hid (Beside r w v0_54) := HS.out.trans (Beside.of b_)
                replace zB : B ≤ v0_54.heap.size := Nat.le_trans zB b_.size
                replace HA : Hid (AlG B v0_54 (.slice t m mc) m) := HA.out.below b_
                replace HR : Hid (∃ q, Rd v0_54 r s n c q) := by obtain ⟨q_, R_⟩ := HR.out; exact ⟨q_, R_.below b_⟩
                try rw [← hlb]
                clear hv_ hlb b_
                refine hK.out _ _ (trivial) (fun hHeld => ?_)
                clear hK KK
                refine wpAnyH_ready (rs := [1]) (by kernel_rfl) (by simp) ?_
                refine (AllReadyH.cons rfl (fun KK hK => ?_) AllReadyH.nil)
                have c_ := H3.out.2.2 1 _ rfl
                have z_ := H3.out.1
                go_simp
                clear c_ z_
                refine hK.out _ _ (trivial) (fun hHeld => ?_)
                clear hK KK
                refine wpAnyH_ready (rs := [12]) (by kernel_rfl) (by simp) ?_
                refine (AllReadyH.cons rfl (fun KK hK => ?_) AllReadyH.nil)
                refine wp_alm HA.out (.tmp 29) (.tmp 39) (by rfl) (by rfl) lb (by rfl) HLB.out (by omega) zB ?_
                intro g9 cap9 v0_56 hc9 b9
                replace HA : Hid (AlG B v0_56 (.slice (some ⟨g9, 0, none⟩) (m + 1) cap9) (m + 1)) := hc9
                replace H2 : Hid (Blk v0_56 g2 [.int .i64 0, .slice none 0 0]) := H2.out.belowB b9 (by omega)
                replace H3 : Hid (Blk v0_56 g3 [.int .i64 x, .slice t m mc]) := H3.out.belowB b9 (by omega)
                replace HR : Hid (∃ q, Rd v0_56 r s n c q) := by obtain ⟨q_, R_⟩ := HR.out; exact ⟨q_, Rd.below' R_ (b9.mono (by omega))⟩
                replace HS : Hid (Beside r w v0_56) := HS.out.onB (b9.mono (by omega))
                replace zB : B ≤ v0_56.heap.size := Nat.le_trans zB b9.size
                clear hc9 b9 HLB
                go_simp
                refine hK.out _ _ (trivial) (fun hHeld => ?_)
                clear hK KK
                refine wpAnyH_take (i := 13) (v := .pointer (some ⟨g3, 1, none⟩)) rfl (by kernel_rfl) (by kernel_rfl) (by kernel_rfl) (fun _ _ _ h => h) (Or.inl ⟨by kernel_rfl, ?_⟩) hHeld ?_
                · intro w' hSw
                  first | (go_simp; done) | (go_simp; with_reducible rfl) | (go_simp; rw [IntKind.wrap_i64]; omega) | (go_simp; omega)
                simp only [Act.put, List.setIfInBounds_toArray, List.set_cons_zero, List.set_cons_succ]
                refine wpAnyH_ready (rs := [14]) (by kernel_rfl) (by simp) ?_
                refine (AllReadyH.cons rfl (fun KK hK => ?_) AllReadyH.nil)
                have u0 := H3.out.2.2 1 _ rfl
                have f0 := H3.out.2.1 1
                have uz := H3.out.1
                have hst := store_slT
                go_simp
                obtain ⟨v0_57, hv_⟩ : ∃ z, z = v0_56.setCell ⟨g3, 1, none⟩ (.slice (some ⟨g9, 0, none⟩) (m + 1) cap9) := ⟨_, rfl⟩
                rw [← hv_]
                have b9 : Beside g3 v0_56 v0_57 := by rw [hv_]; exact Beside.setCell g3 _ 1 _
                replace H3 : Hid (Blk v0_57 g3 [.int .i64 x, .slice (some ⟨g9, 0, none⟩) (m + 1) cap9]) := by show Blk _ _ _; rw [hv_]; exact H3.out.set 1 _
                replace H2 : Hid (Blk v0_57 g2 [.int .i64 0, .slice none 0 0]) := H2.out.beside b9 (by omega)
                replace HA : Hid (AlG B v0_57 (.slice (some ⟨g9, 0, none⟩) (m + 1) cap9) (m + 1)) := HA.out.beside b9 (by omega)
                replace HR : Hid (∃ q, Rd v0_57 r s n c q) := by obtain ⟨q_, R_⟩ := HR.out; have zr_ := R_.1; exact ⟨q_, Rd.below' R_ (b9.below (by omega) (by omega))⟩
                replace HS : Hid (Beside r w v0_57) := HS.out.onB (b9.below (by omega) HS.out.2.2.2.1)
                replace zB : B ≤ v0_57.heap.size := Nat.le_trans zB b9.2.2.2.1
                clear hv_ b9
                clear u0 f0 uz hst
                refine hK.out _ _ (trivial) (fun hHeld => ?_)
                clear hK KK
                refine wpAnyH_done (by kernel_rfl) ?_ _
                clear hHeld
                go_wp2_with fail
                go_roundw
                case rel => exact ⟨k - 1, m + 1, cap9, some ⟨g9, 0, none⟩, by go_num, by omega, by omega, HR, HS, H2, H3, zB, HA⟩
                case measure => simp [intOf]; omega
        · obtain ⟨q0, R0⟩ := HR.out
          go_simp
          go_wp2_with (first | (go_at_call 46; refine (below_any 4 R0).mono ?_; rintro e v0_58 ⟨y7, p9, rfl, y70, y76, y7m, R9, b9⟩))
          replace H2 : Hid (Blk v0_58 g2 [.int .i64 0, .slice none 0 0]) := H2.out.beside b9 (by omega)
          replace H3 : Hid (Blk v0_58 g3 [.int .i64 x, .slice t m mc]) := H3.out.beside b9 (by omega)
          replace HS : Hid (Beside r w v0_58) := HS.out.trans b9
          replace zB : B ≤ v0_58.heap.size := Nat.le_trans zB b9.2.2.2.1
          replace HA : Hid (AlG B v0_58 (.slice t m mc) m) := HA.out.beside b9 (by omega)
          replace HR : Hid (∃ q, Rd v0_58 r s n c q) := ⟨_, R9⟩
          clear R0 R9 b9
          obtain ⟨j7, rfl⟩ : ∃ j : Nat, y7 = (j : Int) := ⟨y7.toNat, by omega⟩
          have j74 : j7 < 4 := by omega
          clear y70 y76 y7m
          refine hK.out _ _ (trivial) (fun hHeld => ?_)
          clear hK KK
          refine wpAnyH_ready (rs := [1, 5]) (by kernel_rfl) (by simp) ?_
          refine (AllReadyH.cons rfl (fun KK hK => ?_) (AllReadyH.cons rfl (fun KK hK => ?_) AllReadyH.nil))
          · have c_ := H3.out.2.2 1 _ rfl
            have z_ := H3.out.1
            go_simp
            clear c_ z_
            refine hK.out _ _ (trivial) (fun hHeld => ?_)
            clear hK KK
            refine wpAnyH_ready (rs := [5]) (by kernel_rfl) (by simp) ?_
            refine (AllReadyH.cons rfl (fun KK hK => ?_) AllReadyH.nil)
            go_simp
            obtain ⟨v0_60, hv_⟩ : ∃ z, z = v0_58.alloc (.cells #[.int .i64 0, .int .i64 0, .int .i64 2, .int .i64 255] 3) := ⟨_, rfl⟩
            rw [← hv_]
            obtain ⟨lt, hlt⟩ : ∃ z, z = v0_58.heap.size := ⟨_, rfl⟩
            have b_ : Below v0_58.heap.size v0_58 v0_60 := by rw [hv_]; exact below0 _ _
            have HT : Hid (Blk v0_60 lt [.int .i64 0, .int .i64 0, .int .i64 2, .int .i64 255]) := by show Blk _ _ _; rw [hv_, hlt]; exact Blk.new v0_58 #[.int .i64 0, .int .i64 0, .int .i64 2, .int .i64 255] _
            have zrt : r < lt := by obtain ⟨q_, R_⟩ := HR.out; have := R_.1; omega
            have zlB : B ≤ lt := by omega
            replace H2 : Hid (Blk v0_60 g2 [.int .i64 0, .slice none 0 0]) := H2.out.below b_
            replace H3 : Hid (Blk v0_60 g3 [.int .i64 x, .slice t m mc]) := H3.out.below b_
            replace HS : Hid (Beside r w v0_60) := HS.out.trans (Beside.of b_)
            replace zB : B ≤ v0_60.heap.size := Nat.le_trans zB b_.size
            replace HA : Hid (AlG B v0_60 (.slice t m mc) m) := HA.out.below b_
            replace HR : Hid (∃ q, Rd v0_60 r s n c q) := by obtain ⟨q_, R_⟩ := HR.out; exact ⟨q_, R_.below b_⟩
            try rw [← hlt]
            clear hv_ hlt b_
            refine hK.out _ _ (trivial) (fun hHeld => ?_)
            clear hK KK
            refine wpAnyH_take (i := 8) (v := .pointer (some ⟨lt, j7, none⟩)) rfl (by kernel_rfl) (by kernel_rfl) (by kernel_rfl) (fun _ _ _ h => h) (Or.inl ⟨by kernel_rfl, ?_⟩) hHeld ?_
            · intro w' hSw
              first | (go_simp; done) | (go_simp; with_reducible rfl) | (go_simp; rw [IntKind.wrap_i64]; omega) | (go_simp; omega)
            simp only [Act.put, List.setIfInBounds_toArray, List.set_cons_zero, List.set_cons_succ]
            refine wpAnyH_ready (rs := [9]) (by kernel_rfl) (by simp) ?_
            refine (AllReadyH.cons rfl (fun KK hK => ?_) AllReadyH.nil)
            obtain ⟨o7, ho7⟩ : ∃ o7 : Int, v0_60.cell? ⟨lt, j7, none⟩ = some (.int .i64 o7) := by
              have : j7 = 0 ∨ j7 = 1 ∨ j7 = 2 ∨ j7 = 3 := by omega
              rcases this with q_ | q_ | q_ | q_ <;> subst q_
              · exact ⟨_, HT.out.2.2 0 _ rfl⟩
              · exact ⟨_, HT.out.2.2 1 _ rfl⟩
              · exact ⟨_, HT.out.2.2 2 _ rfl⟩
              · exact ⟨_, HT.out.2.2 3 _ rfl⟩
            have z_ := HT.out.1
            go_simp
            clear ho7 z_ HT
            refine hK.out _ _ (trivial) (fun hHeld => ?_)
            clear hK KK
            refine wpAnyH_take (i := 10) (v := .agg #[.int .i64 (1 + y3), .int .i64 o7, .int .i64 0, .bool false, .int .i64 0]) rfl (by kernel_rfl) (by kernel_rfl) (by kernel_rfl) (fun _ _ _ h => h) (Or.inl ⟨by kernel_rfl, ?_⟩) hHeld ?_
            · intro w' hSw
              first | (go_simp; done) | (go_simp; with_reducible rfl) | (go_simp; rw [IntKind.wrap_i64]; omega) | (go_simp; omega)
            simp only [Act.put, List.setIfInBounds_toArray, List.set_cons_zero, List.set_cons_succ]
            refine wpAnyH_ready (rs := [11]) (by kernel_rfl) (by simp) ?_
            refine (AllReadyH.cons rfl (fun KK hK => ?_) AllReadyH.nil)
            go_simp
            obtain ⟨v0_62, hv_⟩ : ∃ z, z = v0_60.alloc (.cells #[.int .i64 (1 + y3), .int .i64 o7, .int .i64 0, .bool false, .int .i64 0] 43) := ⟨_, rfl⟩
            rw [← hv_]
            obtain ⟨lb, hlb⟩ : ∃ z, z = v0_60.heap.size := ⟨_, rfl⟩
            have b_ : Below v0_60.heap.size v0_60 v0_62 := by rw [hv_]; exact below0 _ _
            have HLB : Hid (∀ j u, [Value.int .i64 (1 + y3), .int .i64 o7, .int .i64 0, .bool false, .int .i64 0][j]? = some u → v0_62.cell? ((⟨lb, 0, none⟩ : Addr).add j) = some u) := by rw [hv_, hlb]; exact World.news_of_block (cs := #[.int .i64 (1 + y3), .int .i64 o7, .int .i64 0, .bool false, .int .i64 0]) (heap_alloc_new _ _)
            replace H2 : Hid (Blk v0_62 g2 [.int .i64 0, .slice none 0 0]) := H2.out.below b_
            replace H3 : Hid (Blk v0_62 g3 [.int .i64 x, .slice t m mc]) := H3.out.below b_
            replace HS : Hid (Beside r w v0_62) := HS.out.trans (Beside.of b_)
            replace zB : B ≤ v0_62.heap.size := Nat.le_trans zB b_.size
            replace HA : Hid (AlG B v0_62 (.slice t m mc) m) := HA.out.below b_
            replace HR : Hid (∃ q, Rd v0_62 r s n c q) := by obtain ⟨q_, R_⟩ := HR.out; exact ⟨q_, R_.below b_⟩
            try rw [← hlb]
            clear hv_ hlb b_
            refine hK.out _ _ (trivial) (fun hHeld => ?_)
            clear hK KK
            refine wpAnyH_ready (rs := [12]) (by kernel_rfl) (by simp) ?_
            refine (AllReadyH.cons rfl (fun KK hK => ?_) AllReadyH.nil)
            refine wp_alm HA.out (.tmp 29) (.tmp 39) (by rfl) (by rfl) lb (by rfl) HLB.out (by omega) zB ?_
            intro g9 cap9 v0_63 hc9 b9
            replace HA : Hid (AlG B v0_63 (.slice (some ⟨g9, 0, none⟩) (m + 1) cap9) (m + 1)) := hc9
            replace H2 : Hid (Blk v0_63 g2 [.int .i64 0, .slice none 0 0]) := H2.out.belowB b9 (by omega)
            replace H3 : Hid (Blk v0_63 g3 [.int .i64 x, .slice t m mc]) := H3.out.belowB b9 (by omega)
            replace HR : Hid (∃ q, Rd v0_63 r s n c q) := by obtain ⟨q_, R_⟩ := HR.out; exact ⟨q_, Rd.below' R_ (b9.mono (by omega))⟩
            replace HS : Hid (Beside r w v0_63) := HS.out.onB (b9.mono (by omega))
            replace zB : B ≤ v0_63.heap.size := Nat.le_trans zB b9.size
            clear hc9 b9 HLB
            go_simp
            refine hK.out _ _ (trivial) (fun hHeld => ?_)
            clear hK KK
            refine wpAnyH_take (i := 13) (v := .pointer (some ⟨g3, 1, none⟩)) rfl (by kernel_rfl) (by kernel_rfl) (by kernel_rfl) (fun _ _ _ h => h) (Or.inl ⟨by kernel_rfl, ?_⟩) hHeld ?_
            · intro w' hSw
              first | (go_simp; done) | (go_simp; with_reducible rfl) | (go_simp; rw [IntKind.wrap_i64]; omega) | (go_simp; omega)
            simp only [Act.put, List.setIfInBounds_toArray, List.set_cons_zero, List.set_cons_succ]
            refine wpAnyH_ready (rs := [14]) (by kernel_rfl) (by simp) ?_
            refine (AllReadyH.cons rfl (fun KK hK => ?_) AllReadyH.nil)
            have u0 := H3.out.2.2 1 _ rfl
            have f0 := H3.out.2.1 1
            have uz := H3.out.1
            have hst := store_slT
            go_simp
            obtain ⟨v0_64, hv_⟩ : ∃ z, z = v0_63.setCell ⟨g3, 1, none⟩ (.slice (some ⟨g9, 0, none⟩) (m + 1) cap9) := ⟨_, rfl⟩
            rw [← hv_]
            have b9 : Beside g3 v0_63 v0_64 := by rw [hv_]; exact Beside.setCell g3 _ 1 _
            replace H3 : Hid (Blk v0_64 g3 [.int .i64 x, .slice (some ⟨g9, 0, none⟩) (m + 1) cap9]) := by show Blk _ _ _; rw [hv_]; exact H3.out.set 1 _
            replace H2 : Hid (Blk v0_64 g2 [.int .i64 0, .slice none 0 0]) := H2.out.beside b9 (by omega)
            replace HA : Hid (AlG B v0_64 (.slice (some ⟨g9, 0, none⟩) (m + 1) cap9) (m + 1)) := HA.out.beside b9 (by omega)
            replace HR : Hid (∃ q, Rd v0_64 r s n c q) := by obtain ⟨q_, R_⟩ := HR.out; have zr_ := R_.1; exact ⟨q_, Rd.below' R_ (b9.below (by omega) (by omega))⟩
            replace HS : Hid (Beside r w v0_64) := HS.out.onB (b9.below (by omega) HS.out.2.2.2.1)
            replace zB : B ≤ v0_64.heap.size := Nat.le_trans zB b9.2.2.2.1
            clear hv_ b9
            clear u0 f0 uz hst
            refine hK.out _ _ (trivial) (fun hHeld => ?_)
            clear hK KK
            refine wpAnyH_done (by kernel_rfl) ?_ _
            clear hHeld
            go_wp2_with fail
            go_roundw
            case rel => exact ⟨k - 1, m + 1, cap9, some ⟨g9, 0, none⟩, by go_num, by omega, by omega, HR, HS, H2, H3, zB, HA⟩
            case measure => simp [intOf]; omega
          · go_simp
            obtain ⟨v0_65, hv_⟩ : ∃ z, z = v0_58.alloc (.cells #[.int .i64 0, .int .i64 0, .int .i64 2, .int .i64 255] 3) := ⟨_, rfl⟩
            rw [← hv_]
            obtain ⟨lt, hlt⟩ : ∃ z, z = v0_58.heap.size := ⟨_, rfl⟩
            have b_ : Below v0_58.heap.size v0_58 v0_65 := by rw [hv_]; exact below0 _ _
            have HT : Hid (Blk v0_65 lt [.int .i64 0, .int .i64 0, .int .i64 2, .int .i64 255]) := by show Blk _ _ _; rw [hv_, hlt]; exact Blk.new v0_58 #[.int .i64 0, .int .i64 0, .int .i64 2, .int .i64 255] _
            have zrt : r < lt := by obtain ⟨q_, R_⟩ := HR.out; have := R_.1; omega
            have zlB : B ≤ lt := by omega
            replace H2 : Hid (Blk v0_65 g2 [.int .i64 0, .slice none 0 0]) := H2.out.below b_
            replace H3 : Hid (Blk v0_65 g3 [.int .i64 x, .slice t m mc]) := H3.out.below b_
            replace HS : Hid (Beside r w v0_65) := HS.out.trans (Beside.of b_)
            replace zB : B ≤ v0_65.heap.size := Nat.le_trans zB b_.size
            replace HA : Hid (AlG B v0_65 (.slice t m mc) m) := HA.out.below b_
            replace HR : Hid (∃ q, Rd v0_65 r s n c q) := by obtain ⟨q_, R_⟩ := HR.out; exact ⟨q_, R_.below b_⟩
            try rw [← hlt]
            clear hv_ hlt b_
            refine hK.out _ _ (trivial) (fun hHeld => ?_)
            clear hK KK
            refine wpAnyH_take (i := 8) (v := .pointer (some ⟨lt, j7, none⟩)) rfl (by kernel_rfl) (by kernel_rfl) (by kernel_rfl) (fun _ _ _ h => h) (Or.inl ⟨by kernel_rfl, ?_⟩) hHeld ?_
            · intro w' hSw
              first | (go_simp; done) | (go_simp; with_reducible rfl) | (go_simp; rw [IntKind.wrap_i64]; omega) | (go_simp; omega)
            simp only [Act.put, List.setIfInBounds_toArray, List.set_cons_zero, List.set_cons_succ]
            refine wpAnyH_ready (rs := [1, 9]) (by kernel_rfl) (by simp) ?_
            refine (AllReadyH.cons rfl (fun KK hK => ?_) (AllReadyH.cons rfl (fun KK hK => ?_) AllReadyH.nil))
            · have c_ := H3.out.2.2 1 _ rfl
              have z_ := H3.out.1
              go_simp
              clear c_ z_
              refine hK.out _ _ (trivial) (fun hHeld => ?_)
              clear hK KK
              refine wpAnyH_ready (rs := [9]) (by kernel_rfl) (by simp) ?_
              refine (AllReadyH.cons rfl (fun KK hK => ?_) AllReadyH.nil)
              obtain ⟨o7, ho7⟩ : ∃ o7 : Int, v0_65.cell? ⟨lt, j7, none⟩ = some (.int .i64 o7) := by
                have : j7 = 0 ∨ j7 = 1 ∨ j7 = 2 ∨ j7 = 3 := by omega
                rcases this with q_ | q_ | q_ | q_ <;> subst q_
                · exact ⟨_, HT.out.2.2 0 _ rfl⟩
                · exact ⟨_, HT.out.2.2 1 _ rfl⟩
                · exact ⟨_, HT.out.2.2 2 _ rfl⟩
                · exact ⟨_, HT.out.2.2 3 _ rfl⟩
              have z_ := HT.out.1
              go_simp
              clear ho7 z_ HT
              refine hK.out _ _ (trivial) (fun hHeld => ?_)
              clear hK KK
              refine wpAnyH_take (i := 10) (v := .agg #[.int .i64 (1 + y3), .int .i64 o7, .int .i64 0, .bool false, .int .i64 0]) rfl (by kernel_rfl) (by kernel_rfl) (by kernel_rfl) (fun _ _ _ h => h) (Or.inl ⟨by kernel_rfl, ?_⟩) hHeld ?_
              · intro w' hSw
                first | (go_simp; done) | (go_simp; with_reducible rfl) | (go_simp; rw [IntKind.wrap_i64]; omega) | (go_simp; omega)
              simp only [Act.put, List.setIfInBounds_toArray, List.set_cons_zero, List.set_cons_succ]
              refine wpAnyH_ready (rs := [11]) (by kernel_rfl) (by simp) ?_
              refine (AllReadyH.cons rfl (fun KK hK => ?_) AllReadyH.nil)
              go_simp
              obtain ⟨v0_68, hv_⟩ : ∃ z, z = v0_65.alloc (.cells #[.int .i64 (1 + y3), .int .i64 o7, .int .i64 0, .bool false, .int .i64 0] 43) := ⟨_, rfl⟩
              rw [← hv_]
              obtain ⟨lb, hlb⟩ : ∃ z, z = v0_65.heap.size := ⟨_, rfl⟩
              have b_ : Below v0_65.heap.size v0_65 v0_68 := by rw [hv_]; exact below0 _ _
              have HLB : Hid (∀ j u, [Value.int .i64 (1 + y3), .int .i64 o7, .int .i64 0, .bool false, .int .i64 0][j]? = some u → v0_68.cell? ((⟨lb, 0, none⟩ : Addr).add j) = some u) := by rw [hv_, hlb]; exact World.news_of_block (cs := #[.int .i64 (1 + y3), .int .i64 o7, .int .i64 0, .bool false, .int .i64 0]) (heap_alloc_new _ _)
              replace H2 : Hid (Blk v0_68 g2 [.int .i64 0, .slice none 0 0]) := H2.out.below b_
              replace H3 : Hid (Blk v0_68 g3 [.int .i64 x, .slice t m mc]) := H3.out.below b_
              replace HS : Hid (Beside r w v0_68) := HS.out.trans (Beside.of b_)
              replace zB : B ≤ v0_68.heap.size := Nat.le_trans zB b_.size
              replace HA : Hid (AlG B v0_68 (.slice t m mc) m) := HA.out.below b_
              replace HR : Hid (∃ q, Rd v0_68 r s n c q) := by obtain ⟨q_, R_⟩ := HR.out; exact ⟨q_, R_.below b_⟩
              try rw [← hlb]
              clear hv_ hlb b_
              refine hK.out _ _ (trivial) (fun hHeld => ?_)
              clear hK KK
              refine wpAnyH_ready (rs := [12]) (by kernel_rfl) (by simp) ?_
              refine (AllReadyH.cons rfl (fun KK hK => ?_) AllReadyH.nil)
              refine wp_alm HA.out (.tmp 29) (.tmp 39) (by rfl) (by rfl) lb (by rfl) HLB.out (by omega) zB ?_
              intro g9 cap9 v0_69 hc9 b9
              replace HA : Hid (AlG B v0_69 (.slice (some ⟨g9, 0, none⟩) (m + 1) cap9) (m + 1)) := hc9
              replace H2 : Hid (Blk v0_69 g2 [.int .i64 0, .slice none 0 0]) := H2.out.belowB b9 (by omega)
              replace H3 : Hid (Blk v0_69 g3 [.int .i64 x, .slice t m mc]) := H3.out.belowB b9 (by omega)
              replace HR : Hid (∃ q, Rd v0_69 r s n c q) := by obtain ⟨q_, R_⟩ := HR.out; exact ⟨q_, Rd.below' R_ (b9.mono (by omega))⟩
              replace HS : Hid (Beside r w v0_69) := HS.out.onB (b9.mono (by omega))
              replace zB : B ≤ v0_69.heap.size := Nat.le_trans zB b9.size
              clear hc9 b9 HLB
              go_simp
              refine hK.out _ _ (trivial) (fun hHeld => ?_)
              clear hK KK
              refine wpAnyH_take (i := 13) (v := .pointer (some ⟨g3, 1, none⟩)) rfl (by kernel_rfl) (by kernel_rfl) (by kernel_rfl) (fun _ _ _ h => h) (Or.inl ⟨by kernel_rfl, ?_⟩) hHeld ?_
              · intro w' hSw
                first | (go_simp; done) | (go_simp; with_reducible rfl) | (go_simp; rw [IntKind.wrap_i64]; omega) | (go_simp; omega)
              simp only [Act.put, List.setIfInBounds_toArray, List.set_cons_zero, List.set_cons_succ]
              refine wpAnyH_ready (rs := [14]) (by kernel_rfl) (by simp) ?_
              refine (AllReadyH.cons rfl (fun KK hK => ?_) AllReadyH.nil)
              have u0 := H3.out.2.2 1 _ rfl
              have f0 := H3.out.2.1 1
              have uz := H3.out.1
              have hst := store_slT
              go_simp
              obtain ⟨v0_70, hv_⟩ : ∃ z, z = v0_69.setCell ⟨g3, 1, none⟩ (.slice (some ⟨g9, 0, none⟩) (m + 1) cap9) := ⟨_, rfl⟩
              rw [← hv_]
              have b9 : Beside g3 v0_69 v0_70 := by rw [hv_]; exact Beside.setCell g3 _ 1 _
              replace H3 : Hid (Blk v0_70 g3 [.int .i64 x, .slice (some ⟨g9, 0, none⟩) (m + 1) cap9]) := by show Blk _ _ _; rw [hv_]; exact H3.out.set 1 _
              replace H2 : Hid (Blk v0_70 g2 [.int .i64 0, .slice none 0 0]) := H2.out.beside b9 (by omega)
              replace HA : Hid (AlG B v0_70 (.slice (some ⟨g9, 0, none⟩) (m + 1) cap9) (m + 1)) := HA.out.beside b9 (by omega)
              replace HR : Hid (∃ q, Rd v0_70 r s n c q) := by obtain ⟨q_, R_⟩ := HR.out; have zr_ := R_.1; exact ⟨q_, Rd.below' R_ (b9.below (by omega) (by omega))⟩
              replace HS : Hid (Beside r w v0_70) := HS.out.onB (b9.below (by omega) HS.out.2.2.2.1)
              replace zB : B ≤ v0_70.heap.size := Nat.le_trans zB b9.2.2.2.1
              clear hv_ b9
              clear u0 f0 uz hst
              refine hK.out _ _ (trivial) (fun hHeld => ?_)
              clear hK KK
              refine wpAnyH_done (by kernel_rfl) ?_ _
              clear hHeld
              go_wp2_with fail
              go_roundw
              case rel => exact ⟨k - 1, m + 1, cap9, some ⟨g9, 0, none⟩, by go_num, by omega, by omega, HR, HS, H2, H3, zB, HA⟩
              case measure => simp [intOf]; omega
            · obtain ⟨o7, ho7⟩ : ∃ o7 : Int, v0_65.cell? ⟨lt, j7, none⟩ = some (.int .i64 o7) := by
                have : j7 = 0 ∨ j7 = 1 ∨ j7 = 2 ∨ j7 = 3 := by omega
                rcases this with q_ | q_ | q_ | q_ <;> subst q_
                · exact ⟨_, HT.out.2.2 0 _ rfl⟩
                · exact ⟨_, HT.out.2.2 1 _ rfl⟩
                · exact ⟨_, HT.out.2.2 2 _ rfl⟩
                · exact ⟨_, HT.out.2.2 3 _ rfl⟩
              have z_ := HT.out.1
              go_simp
              clear ho7 z_ HT
              refine hK.out _ _ (trivial) (fun hHeld => ?_)
              clear hK KK
              refine wpAnyH_take (i := 10) (v := .agg #[.int .i64 (1 + y3), .int .i64 o7, .int .i64 0, .bool false, .int .i64 0]) rfl (by kernel_rfl) (by kernel_rfl) (by kernel_rfl) (fun _ _ _ h => h) (Or.inl ⟨by kernel_rfl, ?_⟩) hHeld ?_
              · intro w' hSw
                first | (go_simp; done) | (go_simp; with_reducible rfl) | (go_simp; rw [IntKind.wrap_i64]; omega) | (go_simp; omega)
              simp only [Act.put, List.setIfInBounds_toArray, List.set_cons_zero, List.set_cons_succ]
              refine wpAnyH_ready (rs := [1, 11]) (by kernel_rfl) (by simp) ?_
              refine (AllReadyH.cons rfl (fun KK hK => ?_) (AllReadyH.cons rfl (fun KK hK => ?_) AllReadyH.nil))
              · have c_ := H3.out.2.2 1 _ rfl
                have z_ := H3.out.1
                go_simp
                clear c_ z_
                refine hK.out _ _ (trivial) (fun hHeld => ?_)
                clear hK KK
                refine wpAnyH_ready (rs := [11]) (by kernel_rfl) (by simp) ?_
                refine (AllReadyH.cons rfl (fun KK hK => ?_) AllReadyH.nil)
                go_simp
                obtain ⟨v0_73, hv_⟩ : ∃ z, z = v0_65.alloc (.cells #[.int .i64 (1 + y3), .int .i64 o7, .int .i64 0, .bool false, .int .i64 0] 43) := ⟨_, rfl⟩
                rw [← hv_]
                obtain ⟨lb, hlb⟩ : ∃ z, z = v0_65.heap.size := ⟨_, rfl⟩
                have b_ : Below v0_65.heap.size v0_65 v0_73 := by rw [hv_]; exact below0 _ _
                have HLB : Hid (∀ j u, [Value.int .i64 (1 + y3), .int .i64 o7, .int .i64 0, .bool false, .int .i64 0][j]? = some u → v0_73.cell? ((⟨lb, 0, none⟩ : Addr).add j) = some u) := by rw [hv_, hlb]; exact World.news_of_block (cs := #[.int .i64 (1 + y3), .int .i64 o7, .int .i64 0, .bool false, .int .i64 0]) (heap_alloc_new _ _)
                replace H2 : Hid (Blk v0_73 g2 [.int .i64 0, .slice none 0 0]) := H2.out.below b_
                replace H3 : Hid (Blk v0_73 g3 [.int .i64 x, .slice t m mc]) := H3.out.below b_
                replace HS : Hid (Beside r w v0_73) := HS.out.trans (Beside.of b_)
                replace zB : B ≤ v0_73.heap.size := Nat.le_trans zB b_.size
                replace HA : Hid (AlG B v0_73 (.slice t m mc) m) := HA.out.below b_
                replace HR : Hid (∃ q, Rd v0_73 r s n c q) := by obtain ⟨q_, R_⟩ := HR.out; exact ⟨q_, R_.below b_⟩
                try rw [← hlb]
                clear hv_ hlb b_
                refine hK.out _ _ (trivial) (fun hHeld => ?_)
                clear hK KK
                refine wpAnyH_ready (rs := [12]) (by kernel_rfl) (by simp) ?_
                refine (AllReadyH.cons rfl (fun KK hK => ?_) AllReadyH.nil)
                refine wp_alm HA.out (.tmp 29) (.tmp 39) (by rfl) (by rfl) lb (by rfl) HLB.out (by omega) zB ?_
                intro g9 cap9 v0_74 hc9 b9
                replace HA : Hid (AlG B v0_74 (.slice (some ⟨g9, 0, none⟩) (m + 1) cap9) (m + 1)) := hc9
                replace H2 : Hid (Blk v0_74 g2 [.int .i64 0, .slice none 0 0]) := H2.out.belowB b9 (by omega)
                replace H3 : Hid (Blk v0_74 g3 [.int .i64 x, .slice t m mc]) := H3.out.belowB b9 (by omega)
                replace HR : Hid (∃ q, Rd v0_74 r s n c q) := by obtain ⟨q_, R_⟩ := HR.out; exact ⟨q_, Rd.below' R_ (b9.mono (by omega))⟩
                replace HS : Hid (Beside r w v0_74) := HS.out.onB (b9.mono (by omega))
                replace zB : B ≤ v0_74.heap.size := Nat.le_trans zB b9.size
                clear hc9 b9 HLB
                go_simp
                refine hK.out _ _ (trivial) (fun hHeld => ?_)
                clear hK KK
                refine wpAnyH_take (i := 13) (v := .pointer (some ⟨g3, 1, none⟩)) rfl (by kernel_rfl) (by kernel_rfl) (by kernel_rfl) (fun _ _ _ h => h) (Or.inl ⟨by kernel_rfl, ?_⟩) hHeld ?_
                · intro w' hSw
                  first | (go_simp; done) | (go_simp; with_reducible rfl) | (go_simp; rw [IntKind.wrap_i64]; omega) | (go_simp; omega)
                simp only [Act.put, List.setIfInBounds_toArray, List.set_cons_zero, List.set_cons_succ]
                refine wpAnyH_ready (rs := [14]) (by kernel_rfl) (by simp) ?_
                refine (AllReadyH.cons rfl (fun KK hK => ?_) AllReadyH.nil)
                have u0 := H3.out.2.2 1 _ rfl
                have f0 := H3.out.2.1 1
                have uz := H3.out.1
                have hst := store_slT
                go_simp
                obtain ⟨v0_75, hv_⟩ : ∃ z, z = v0_74.setCell ⟨g3, 1, none⟩ (.slice (some ⟨g9, 0, none⟩) (m + 1) cap9) := ⟨_, rfl⟩
                rw [← hv_]
                have b9 : Beside g3 v0_74 v0_75 := by rw [hv_]; exact Beside.setCell g3 _ 1 _
                replace H3 : Hid (Blk v0_75 g3 [.int .i64 x, .slice (some ⟨g9, 0, none⟩) (m + 1) cap9]) := by show Blk _ _ _; rw [hv_]; exact H3.out.set 1 _
                replace H2 : Hid (Blk v0_75 g2 [.int .i64 0, .slice none 0 0]) := H2.out.beside b9 (by omega)
                replace HA : Hid (AlG B v0_75 (.slice (some ⟨g9, 0, none⟩) (m + 1) cap9) (m + 1)) := HA.out.beside b9 (by omega)
                replace HR : Hid (∃ q, Rd v0_75 r s n c q) := by obtain ⟨q_, R_⟩ := HR.out; have zr_ := R_.1; exact ⟨q_, Rd.below' R_ (b9.below (by omega) (by omega))⟩
                replace HS : Hid (Beside r w v0_75) := HS.out.onB (b9.below (by omega) HS.out.2.2.2.1)
                replace zB : B ≤ v0_75.heap.size := Nat.le_trans zB b9.2.2.2.1
                clear hv_ b9
                clear u0 f0 uz hst
                refine hK.out _ _ (trivial) (fun hHeld => ?_)
                clear hK KK
                refine wpAnyH_done (by kernel_rfl) ?_ _
                clear hHeld
                go_wp2_with fail
                go_roundw
                case rel => exact ⟨k - 1, m + 1, cap9, some ⟨g9, 0, none⟩, by go_num, by omega, by omega, HR, HS, H2, H3, zB, HA⟩
                case measure => simp [intOf]; omega
              · go_simp
                obtain ⟨v0_76, hv_⟩ : ∃ z, z = v0_65.alloc (.cells #[.int .i64 (1 + y3), .int .i64 o7, .int .i64 0, .bool false, .int .i64 0] 43) := ⟨_, rfl⟩
                rw [← hv_]
                obtain ⟨lb, hlb⟩ : ∃ z, z = v0_65.heap.size := ⟨_, rfl⟩
                have b_ : Below v0_65.heap.size v0_65 v0_76 := by rw [hv_]; exact below0 _ _
                have HLB : Hid (∀ j u, [Value.int .i64 (1 + y3), .int .i64 o7, .int .i64 0, .bool false, .int .i64 0][j]? = some u → v0_76.cell? ((⟨lb, 0, none⟩ : Addr).add j) = some u) := by rw [hv_, hlb]; exact World.news_of_block (cs := #[.int .i64 (1 + y3), .int .i64 o7, .int .i64 0, .bool false, .int .i64 0]) (heap_alloc_new _ _)
                replace H2 : Hid (Blk v0_76 g2 [.int .i64 0, .slice none 0 0]) := H2.out.below b_
                replace H3 : Hid (Blk v0_76 g3 [.int .i64 x, .slice t m mc]) := H3.out.below b_
                replace HS : Hid (Beside r w v0_76) := HS.out.trans (Beside.of b_)
                replace zB : B ≤ v0_76.heap.size := Nat.le_trans zB b_.size
                replace HA : Hid (AlG B v0_76 (.slice t m mc) m) := HA.out.below b_
                replace HR : Hid (∃ q, Rd v0_76 r s n c q) := by obtain ⟨q_, R_⟩ := HR.out; exact ⟨q_, R_.below b_⟩
                try rw [← hlb]
                clear hv_ hlb b_
                refine hK.out _ _ (trivial) (fun hHeld => ?_)
                clear hK KK
                refine wpAnyH_ready (rs := [1]) (by kernel_rfl) (by simp) ?_
                refine (AllReadyH.cons rfl (fun KK hK => ?_) AllReadyH.nil)
                have c_ := H3.out.2.2 1 _ rfl
                have z_ := H3.out.1
                go_simp
                clear c_ z_
                refine hK.out _ _ (trivial) (fun hHeld => ?_)
                clear hK KK
                refine wpAnyH_ready (rs := [12]) (by kernel_rfl) (by simp) ?_
                refine (AllReadyH.cons rfl (fun KK hK => ?_) AllReadyH.nil)
                refine wp_alm HA.out (.tmp 29) (.tmp 39) (by rfl) (by rfl) lb (by rfl) HLB.out (by omega) zB ?_
                intro g9 cap9 v0_78 hc9 b9
                replace HA : Hid (AlG B v0_78 (.slice (some ⟨g9, 0, none⟩) (m + 1) cap9) (m + 1)) := hc9
                replace H2 : Hid (Blk v0_78 g2 [.int .i64 0, .slice none 0 0]) := H2.out.belowB b9 (by omega)
                replace H3 : Hid (Blk v0_78 g3 [.int .i64 x, .slice t m mc]) := H3.out.belowB b9 (by omega)
                replace HR : Hid (∃ q, Rd v0_78 r s n c q) := by obtain ⟨q_, R_⟩ := HR.out; exact ⟨q_, Rd.below' R_ (b9.mono (by omega))⟩
                replace HS : Hid (Beside r w v0_78) := HS.out.onB (b9.mono (by omega))
                replace zB : B ≤ v0_78.heap.size := Nat.le_trans zB b9.size
                clear hc9 b9 HLB
                go_simp
                refine hK.out _ _ (trivial) (fun hHeld => ?_)
                clear hK KK
                refine wpAnyH_take (i := 13) (v := .pointer (some ⟨g3, 1, none⟩)) rfl (by kernel_rfl) (by kernel_rfl) (by kernel_rfl) (fun _ _ _ h => h) (Or.inl ⟨by kernel_rfl, ?_⟩) hHeld ?_
                · intro w' hSw
                  first | (go_simp; done) | (go_simp; with_reducible rfl) | (go_simp; rw [IntKind.wrap_i64]; omega) | (go_simp; omega)
                simp only [Act.put, List.setIfInBounds_toArray, List.set_cons_zero, List.set_cons_succ]
                refine wpAnyH_ready (rs := [14]) (by kernel_rfl) (by simp) ?_
                refine (AllReadyH.cons rfl (fun KK hK => ?_) AllReadyH.nil)
                have u0 := H3.out.2.2 1 _ rfl
                have f0 := H3.out.2.1 1
                have uz := H3.out.1
                have hst := store_slT
                go_simp
                obtain ⟨v0_79, hv_⟩ : ∃ z, z = v0_78.setCell ⟨g3, 1, none⟩ (.slice (some ⟨g9, 0, none⟩) (m + 1) cap9) := ⟨_, rfl⟩
                rw [← hv_]
                have b9 : Beside g3 v0_78 v0_79 := by rw [hv_]; exact Beside.setCell g3 _ 1 _
                replace H3 : Hid (Blk v0_79 g3 [.int .i64 x, .slice (some ⟨g9, 0, none⟩) (m + 1) cap9]) := by show Blk _ _ _; rw [hv_]; exact H3.out.set 1 _
                replace H2 : Hid (Blk v0_79 g2 [.int .i64 0, .slice none 0 0]) := H2.out.beside b9 (by omega)
                replace HA : Hid (AlG B v0_79 (.slice (some ⟨g9, 0, none⟩) (m + 1) cap9) (m + 1)) := HA.out.beside b9 (by omega)
                replace HR : Hid (∃ q, Rd v0_79 r s n c q) := by obtain ⟨q_, R_⟩ := HR.out; have zr_ := R_.1; exact ⟨q_, Rd.below' R_ (b9.below (by omega) (by omega))⟩
                replace HS : Hid (Beside r w v0_79) := HS.out.onB (b9.below (by omega) HS.out.2.2.2.1)
                replace zB : B ≤ v0_79.heap.size := Nat.le_trans zB b9.2.2.2.1
                clear hv_ b9
                clear u0 f0 uz hst
                refine hK.out _ _ (trivial) (fun hHeld => ?_)
                clear hK KK
                refine wpAnyH_done (by kernel_rfl) ?_ _
                clear hHeld
                go_wp2_with fail
                go_roundw
                case rel => exact ⟨k - 1, m + 1, cap9, some ⟨g9, 0, none⟩, by go_num, by omega, by omega, HR, HS, H2, H3, zB, HA⟩
                case measure => simp [intOf]; omega
      · go_simp
        obtain ⟨v0_80, hv_⟩ : ∃ z, z = v0.alloc (.cells #[.int .i64 0, .int .i64 0, .int .i64 2, .int .i64 255] 3) := ⟨_, rfl⟩
        rw [← hv_]
        obtain ⟨lt, hlt⟩ : ∃ z, z = v0.heap.size := ⟨_, rfl⟩
        have b_ : Below v0.heap.size v0 v0_80 := by rw [hv_]; exact below0 _ _
        have HT : Hid (Blk v0_80 lt [.int .i64 0, .int .i64 0, .int .i64 2, .int .i64 255]) := by show Blk _ _ _; rw [hv_, hlt]; exact Blk.new v0 #[.int .i64 0, .int .i64 0, .int .i64 2, .int .i64 255] _
        have zrt : r < lt := by obtain ⟨q_, R_⟩ := HR.out; have := R_.1; omega
        have zlB : B ≤ lt := by omega
        replace H2 : Hid (Blk v0_80 g2 [.int .i64 0, .slice none 0 0]) := H2.out.below b_
        replace H3 : Hid (Blk v0_80 g3 [.int .i64 x, .slice t m mc]) := H3.out.below b_
        replace HS : Hid (Beside r w v0_80) := HS.out.trans (Beside.of b_)
        replace zB : B ≤ v0_80.heap.size := Nat.le_trans zB b_.size
        replace HA : Hid (AlG B v0_80 (.slice t m mc) m) := HA.out.below b_
        replace HR : Hid (∃ q, Rd v0_80 r s n c q) := by obtain ⟨q_, R_⟩ := HR.out; exact ⟨q_, R_.below b_⟩
        try rw [← hlt]
        clear hv_ hlt b_
        refine hK.out _ _ (trivial) (fun hHeld => ?_)
        clear hK KK
        refine wpAnyH_ready (rs := [1, 3]) (by kernel_rfl) (by simp) ?_
        refine (AllReadyH.cons rfl (fun KK hK => ?_) (AllReadyH.cons rfl (fun KK hK => ?_) AllReadyH.nil))
        · have c_ := H3.out.2.2 1 _ rfl
          have z_ := H3.out.1
          go_simp
          clear c_ z_
          refine hK.out _ _ (trivial) (fun hHeld => ?_)
          clear hK KK
          refine wpAnyH_ready (rs := [3]) (by kernel_rfl) (by simp) ?_
          refine (AllReadyH.cons rfl (fun KK hK => ?_) AllReadyH.nil)
          obtain ⟨q0, R0⟩ := HR.out
          go_simp
          go_wp2_with (first | (go_at_call 46; refine (below_any 3 R0).mono ?_; rintro e v0_82 ⟨y3, p9, rfl, y30, y36, y3m, R9, b9⟩))
          replace H2 : Hid (Blk v0_82 g2 [.int .i64 0, .slice none 0 0]) := H2.out.beside b9 (by omega)
          replace H3 : Hid (Blk v0_82 g3 [.int .i64 x, .slice t m mc]) := H3.out.beside b9 (by omega)
          replace HS : Hid (Beside r w v0_82) := HS.out.trans b9
          replace zB : B ≤ v0_82.heap.size := Nat.le_trans zB b9.2.2.2.1
          replace HA : Hid (AlG B v0_82 (.slice t m mc) m) := HA.out.beside b9 (by omega)
          replace HT : Hid (Blk v0_82 lt [.int .i64 0, .int .i64 0, .int .i64 2, .int .i64 255]) := HT.out.beside b9 (by omega)
          replace HR : Hid (∃ q, Rd v0_82 r s n c q) := ⟨_, R9⟩
          clear R0 R9 b9
          refine hK.out _ _ (trivial) (fun hHeld => ?_)
          clear hK KK
          refine wpAnyH_take (i := 4) (v := .int .i64 (1 + y3)) rfl (by kernel_rfl) (by kernel_rfl) (by kernel_rfl) (fun _ _ _ h => h) (Or.inl ⟨by kernel_rfl, ?_⟩) hHeld ?_
          · intro w' hSw
            first | (go_simp; done) | (go_simp; with_reducible rfl) | (go_simp; rw [IntKind.wrap_i64]; omega) | (go_simp; omega)
          simp only [Act.put, List.setIfInBounds_toArray, List.set_cons_zero, List.set_cons_succ]
          refine wpAnyH_ready (rs := [7]) (by kernel_rfl) (by simp) ?_
          refine (AllReadyH.cons rfl (fun KK hK => ?_) AllReadyH.nil)
          obtain ⟨q0, R0⟩ := HR.out
          go_simp
          go_wp2_with (first | (go_at_call 46; refine (below_any 4 R0).mono ?_; rintro e v0_83 ⟨y7, p9, rfl, y70, y76, y7m, R9, b9⟩))
          replace H2 : Hid (Blk v0_83 g2 [.int .i64 0, .slice none 0 0]) := H2.out.beside b9 (by omega)
          replace H3 : Hid (Blk v0_83 g3 [.int .i64 x, .slice t m mc]) := H3.out.beside b9 (by omega)
          replace HS : Hid (Beside r w v0_83) := HS.out.trans b9
          replace zB : B ≤ v0_83.heap.size := Nat.le_trans zB b9.2.2.2.1
          replace HA : Hid (AlG B v0_83 (.slice t m mc) m) := HA.out.beside b9 (by omega)
          replace HT : Hid (Blk v0_83 lt [.int .i64 0, .int .i64 0, .int .i64 2, .int .i64 255]) := HT.out.beside b9 (by omega)
          replace HR : Hid (∃ q, Rd v0_83 r s n c q) := ⟨_, R9⟩
          clear R0 R9 b9
          obtain ⟨j7, rfl⟩ : ∃ j : Nat, y7 = (j : Int) := ⟨y7.toNat, by omega⟩
          have j74 : j7 < 4 := by omega
          clear y70 y76 y7m
          refine hK.out _ _ (trivial) (fun hHeld => ?_)
          clear hK KK
          refine wpAnyH_take (i := 8) (v := .pointer (some ⟨lt, j7, none⟩)) rfl (by kernel_rfl) (by kernel_rfl) (by kernel_rfl) (fun _ _ _ h => h) (Or.inl ⟨by kernel_rfl, ?_⟩) hHeld ?_
          · intro w' hSw
            first | (go_simp; done) | (go_simp; with_reducible rfl) | (go_simp; rw [IntKind.wrap_i64]; omega) | (go_simp; omega)
          simp only [Act.put, List.setIfInBounds_toArray, List.set_cons_zero, List.set_cons_succ]
          refine wpAnyH_ready (rs := [9]) (by kernel_rfl) (by simp) ?_
          refine (AllReadyH.cons rfl (fun KK hK => ?_) AllReadyH.nil)
          obtain ⟨o7, ho7⟩ : ∃ o7 : Int, v0_83.cell? ⟨lt, j7, none⟩ = some (.int .i64 o7) := by
            have : j7 = 0 ∨ j7 = 1 ∨ j7 = 2 ∨ j7 = 3 := by omega
            rcases this with q_ | q_ | q_ | q_ <;> subst q_
            · exact ⟨_, HT.out.2.2 0 _ rfl⟩
            · exact ⟨_, HT.out.2.2 1 _ rfl⟩
            · exact ⟨_, HT.out.2.2 2 _ rfl⟩
            · exact ⟨_, HT.out.2.2 3 _ rfl⟩
          have z_ := HT.out.1
          go_simp
          clear ho7 z_ HT
          refine hK.out _ _ (trivial) (fun hHeld => ?_)
          clear hK KK
          refine wpAnyH_take (i := 10) (v := .agg #[.int .i64 (1 + y3), .int .i64 o7, .int .i64 0, .bool false, .int .i64 0]) rfl (by kernel_rfl) (by kernel_rfl) (by kernel_rfl) (fun _ _ _ h => h) (Or.inl ⟨by kernel_rfl, ?_⟩) hHeld ?_
          · intro w' hSw
            first | (go_simp; done) | (go_simp; with_reducible rfl) | (go_simp; rw [IntKind.wrap_i64]; omega) | (go_simp; omega)
          simp only [Act.put, List.setIfInBounds_toArray, List.set_cons_zero, List.set_cons_succ]
          refine wpAnyH_ready (rs := [11]) (by kernel_rfl) (by simp) ?_
          refine (AllReadyH.cons rfl (fun KK hK => ?_) AllReadyH.nil)
          go_simp
          obtain ⟨v0_85, hv_⟩ : ∃ z, z = v0_83.alloc (.cells #[.int .i64 (1 + y3), .int .i64 o7, .int .i64 0, .bool false, .int .i64 0] 43) := ⟨_, rfl⟩
          rw [← hv_]
          obtain ⟨lb, hlb⟩ : ∃ z, z = v0_83.heap.size := ⟨_, rfl⟩
          have b_ : Below v0_83.heap.size v0_83 v0_85 := by rw [hv_]; exact below0 _ _
          have HLB : Hid (∀ j u, [Value.int .i64 (1 + y3), .int .i64 o7, .int .i64 0, .bool false, .int .i64 0][j]? = some u → v0_85.cell? ((⟨lb, 0, none⟩ : Addr).add j) = some u) := by rw [hv_, hlb]; exact World.news_of_block (cs := #[.int .i64 (1 + y3), .int .i64 o7, .int .i64 0, .bool false, .int .i64 0]) (heap_alloc_new _ _)
          replace H2 : Hid (Blk v0_85 g2 [.int .i64 0, .slice none 0 0]) := H2.out.below b_
          replace H3 : Hid (Blk v0_85 g3 [.int .i64 x, .slice t m mc]) := H3.out.below b_
          replace HS : Hid (Beside r w v0_85) := HS.out.trans (Beside.of b_)
          replace zB : B ≤ v0_85.heap.size := Nat.le_trans zB b_.size
          replace HA : Hid (AlG B v0_85 (.slice t m mc) m) := HA.out.below b_
          replace HR : Hid (∃ q, Rd v0_85 r s n c q) := by obtain ⟨q_, R_⟩ := HR.out; exact ⟨q_, R_.below b_⟩
          try rw [← hlb]
          clear hv_ hlb b_
          refine hK.out _ _ (trivial) (fun hHeld => ?_)
          clear hK KK
          refine wpAnyH_ready (rs := [12]) (by kernel_rfl) (by simp) ?_
          refine (AllReadyH.cons rfl (fun KK hK => ?_) AllReadyH.nil)
          refine wp_alm HA.out (.tmp 29) (.tmp 39) (by rfl) (by rfl) lb (by rfl) HLB.out (by omega) zB ?_
          intro g9 cap9 v0_86 hc9 b9
          replace HA : Hid (AlG B v0_86 (.slice (some ⟨g9, 0, none⟩) (m + 1) cap9) (m + 1)) := hc9
          replace H2 : Hid (Blk v0_86 g2 [.int .i64 0, .slice none 0 0]) := H2.out.belowB b9 (by omega)
          replace H3 : Hid (Blk v0_86 g3 [.int .i64 x, .slice t m mc]) := H3.out.belowB b9 (by omega)
          replace HR : Hid (∃ q, Rd v0_86 r s n c q) := by obtain ⟨q_, R_⟩ := HR.out; exact ⟨q_, Rd.below' R_ (b9.mono (by omega))⟩
          replace HS : Hid (Beside r w v0_86) := HS.out.onB (b9.mono (by omega))
          replace zB : B ≤ v0_86.heap.size := Nat.le_trans zB b9.size
          clear hc9 b9 HLB
          go_simp
          refine hK.out _ _ (trivial) (fun hHeld => ?_)
          clear hK KK
          refine wpAnyH_take (i := 13) (v := .pointer (some ⟨g3, 1, none⟩)) rfl (by kernel_rfl) (by kernel_rfl) (by kernel_rfl) (fun _ _ _ h => h) (Or.inl ⟨by kernel_rfl, ?_⟩) hHeld ?_
          · intro w' hSw
            first | (go_simp; done) | (go_simp; with_reducible rfl) | (go_simp; rw [IntKind.wrap_i64]; omega) | (go_simp; omega)
          simp only [Act.put, List.setIfInBounds_toArray, List.set_cons_zero, List.set_cons_succ]
          refine wpAnyH_ready (rs := [14]) (by kernel_rfl) (by simp) ?_
          refine (AllReadyH.cons rfl (fun KK hK => ?_) AllReadyH.nil)
          have u0 := H3.out.2.2 1 _ rfl
          have f0 := H3.out.2.1 1
          have uz := H3.out.1
          have hst := store_slT
          go_simp
          obtain ⟨v0_87, hv_⟩ : ∃ z, z = v0_86.setCell ⟨g3, 1, none⟩ (.slice (some ⟨g9, 0, none⟩) (m + 1) cap9) := ⟨_, rfl⟩
          rw [← hv_]
          have b9 : Beside g3 v0_86 v0_87 := by rw [hv_]; exact Beside.setCell g3 _ 1 _
          replace H3 : Hid (Blk v0_87 g3 [.int .i64 x, .slice (some ⟨g9, 0, none⟩) (m + 1) cap9]) := by show Blk _ _ _; rw [hv_]; exact H3.out.set 1 _
          replace H2 : Hid (Blk v0_87 g2 [.int .i64 0, .slice none 0 0]) := H2.out.beside b9 (by omega)
          replace HA : Hid (AlG B v0_87 (.slice (some ⟨g9, 0, none⟩) (m + 1) cap9) (m + 1)) := HA.out.beside b9 (by omega)
          replace HR : Hid (∃ q, Rd v0_87 r s n c q) := by obtain ⟨q_, R_⟩ := HR.out; have zr_ := R_.1; exact ⟨q_, Rd.below' R_ (b9.below (by omega) (by omega))⟩
          replace HS : Hid (Beside r w v0_87) := HS.out.onB (b9.below (by omega) HS.out.2.2.2.1)
          replace zB : B ≤ v0_87.heap.size := Nat.le_trans zB b9.2.2.2.1
          clear hv_ b9
          clear u0 f0 uz hst
          refine hK.out _ _ (trivial) (fun hHeld => ?_)
          clear hK KK
          refine wpAnyH_done (by kernel_rfl) ?_ _
          clear hHeld
          go_wp2_with fail
          go_roundw
          case rel => exact ⟨k - 1, m + 1, cap9, some ⟨g9, 0, none⟩, by go_num, by omega, by omega, HR, HS, H2, H3, zB, HA⟩
          case measure => simp [intOf]; omega
        · obtain ⟨q0, R0⟩ := HR.out
          go_simp
          go_wp2_with (first | (go_at_call 46; refine (below_any 3 R0).mono ?_; rintro e v0_88 ⟨y3, p9, rfl, y30, y36, y3m, R9, b9⟩))
          replace H2 : Hid (Blk v0_88 g2 [.int .i64 0, .slice none 0 0]) := H2.out.beside b9 (by omega)
          replace H3 : Hid (Blk v0_88 g3 [.int .i64 x, .slice t m mc]) := H3.out.beside b9 (by omega)
          replace HS : Hid (Beside r w v0_88) := HS.out.trans b9
          replace zB : B ≤ v0_88.heap.size := Nat.le_trans zB b9.2.2.2.1
          replace HA : Hid (AlG B v0_88 (.slice t m mc) m) := HA.out.beside b9 (by omega)
          replace HT : Hid (Blk v0_88 lt [.int .i64 0, .int .i64 0, .int .i64 2, .int .i64 255]) := HT.out.beside b9 (by omega)
          replace HR : Hid (∃ q, Rd v0_88 r s n c q) := ⟨_, R9⟩
          clear R0 R9 b9
          refine hK.out _ _ (trivial) (fun hHeld => ?_)
          clear hK KK
          refine wpAnyH_take (i := 4) (v := .int .i64 (1 + y3)) rfl (by kernel_rfl) (by kernel_rfl) (by kernel_rfl) (fun _ _ _ h => h) (Or.inl ⟨by kernel_rfl, ?_⟩) hHeld ?_
          · intro w' hSw
            first | (go_simp; done) | (go_simp; with_reducible rfl) | (go_simp; rw [IntKind.wrap_i64]; omega) | (go_simp; omega)
          simp only [Act.put, List.setIfInBounds_toArray, List.set_cons_zero, List.set_cons_succ]
          refine wpAnyH_ready (rs := [1, 7]) (by kernel_rfl) (by simp) ?_
          refine (AllReadyH.cons rfl (fun KK hK => ?_) (AllReadyH.cons rfl (fun KK hK => ?_) AllReadyH.nil))
          · have c_ := H3.out.2.2 1 _ rfl
            have z_ := H3.out.1
            go_simp
            clear c_ z_
            refine hK.out _ _ (trivial) (fun hHeld => ?_)
            clear hK KK
            refine wpAnyH_ready (rs := [7]) (by kernel_rfl) (by simp) ?_
            refine (AllReadyH.cons rfl (fun KK hK => ?_) AllReadyH.nil)
            obtain ⟨q0, R0⟩ := HR.out
            go_simp
            go_wp2_with (first | (go_at_call 46; refine (below_any 4 R0).mono ?_; rintro e v0_90 ⟨y7, p9, rfl, y70, y76, y7m, R9, b9⟩))
            replace H2 : Hid (Blk v0_90 g2 [.int .i64 0, .slice none 0 0]) := H2.out.beside b9 (by omega)
            replace H3 : Hid (Blk v0_90 g3 [.int .i64 x, .slice t m mc]) := H3.out.beside b9 (by omega)
            replace HS : Hid (Beside r w v0_90) := HS.out.trans b9
            replace zB : B ≤ v0_90.heap.size := Nat.le_trans zB b9.2.2.2.1
            replace HA : Hid (AlG B v0_90 (.slice t m mc) m) := HA.out.beside b9 (by omega)
            replace HT : Hid (Blk v0_90 lt [.int .i64 0, .int .i64 0, .int .i64 2, .int .i64 255]) := HT.out.beside b9 (by omega)
            replace HR : Hid (∃ q, Rd v0_90 r s n c q) := ⟨_, R9⟩
            clear R0 R9 b9
            obtain ⟨j7, rfl⟩ : ∃ j : Nat, y7 = (j : Int) := ⟨y7.toNat, by omega⟩
            have j74 : j7 < 4 := by omega
            clear y70 y76 y7m
            refine hK.out _ _ (trivial) (fun hHeld => ?_)
            clear hK KK
            refine wpAnyH_take (i := 8) (v := .pointer (some ⟨lt, j7, none⟩)) rfl (by kernel_rfl) (by kernel_rfl) (by kernel_rfl) (fun _ _ _ h => h) (Or.inl ⟨by kernel_rfl, ?_⟩) hHeld ?_
            · intro w' hSw
              first | (go_simp; done) | (go_simp; with_reducible rfl) | (go_simp; rw [IntKind.wrap_i64]; omega) | (go_simp; omega)
            simp only [Act.put, List.setIfInBounds_toArray, List.set_cons_zero, List.set_cons_succ]
            refine wpAnyH_ready (rs := [9]) (by kernel_rfl) (by simp) ?_
            refine (AllReadyH.cons rfl (fun KK hK => ?_) AllReadyH.nil)
            obtain ⟨o7, ho7⟩ : ∃ o7 : Int, v0_90.cell? ⟨lt, j7, none⟩ = some (.int .i64 o7) := by
              have : j7 = 0 ∨ j7 = 1 ∨ j7 = 2 ∨ j7 = 3 := by omega
              rcases this with q_ | q_ | q_ | q_ <;> subst q_
              · exact ⟨_, HT.out.2.2 0 _ rfl⟩
              · exact ⟨_, HT.out.2.2 1 _ rfl⟩
              · exact ⟨_, HT.out.2.2 2 _ rfl⟩
              · exact ⟨_, HT.out.2.2 3 _ rfl⟩
            have z_ := HT.out.1
            go_simp
            clear ho7 z_ HT
            refine hK.out _ _ (trivial) (fun hHeld => ?_)
            clear hK KK
            refine wpAnyH_take (i := 10) (v := .agg #[.int .i64 (1 + y3), .int .i64 o7, .int .i64 0, .bool false, .int .i64 0]) rfl (by kernel_rfl) (by kernel_rfl) (by kernel_rfl) (fun _ _ _ h => h) (Or.inl ⟨by kernel_rfl, ?_⟩) hHeld ?_
            · intro w' hSw
              first | (go_simp; done) | (go_simp; with_reducible rfl) | (go_simp; rw [IntKind.wrap_i64]; omega) | (go_simp; omega)
            simp only [Act.put, List.setIfInBounds_toArray, List.set_cons_zero, List.set_cons_succ]
            refine wpAnyH_ready (rs := [11]) (by kernel_rfl) (by simp) ?_
            refine (AllReadyH.cons rfl (fun KK hK => ?_) AllReadyH.nil)
            go_simp
            obtain ⟨v0_92, hv_⟩ : ∃ z, z = v0_90.alloc (.cells #[.int .i64 (1 + y3), .int .i64 o7, .int .i64 0, .bool false, .int .i64 0] 43) := ⟨_, rfl⟩
            rw [← hv_]
            obtain ⟨lb, hlb⟩ : ∃ z, z = v0_90.heap.size := ⟨_, rfl⟩
            have b_ : Below v0_90.heap.size v0_90 v0_92 := by rw [hv_]; exact below0 _ _
            have HLB : Hid (∀ j u, [Value.int .i64 (1 + y3), .int .i64 o7, .int .i64 0, .bool false, .int .i64 0][j]? = some u → v0_92.cell? ((⟨lb, 0, none⟩ : Addr).add j) = some u) := by rw [hv_, hlb]; exact World.news_of_block (cs := #[.int .i64 (1 + y3), .int .i64 o7, .int .i64 0, .bool false, .int .i64 0]) (heap_alloc_new _ _)
            replace H2 : Hid (Blk v0_92 g2 [.int .i64 0, .slice none 0 0]) := H2.out.below b_
            replace H3 : Hid (Blk v0_92 g3 [.int .i64 x, .slice t m mc]) := H3.out.below b_
            replace HS : Hid (Beside r w v0_92) := HS.out.trans (Beside.of b_)
            replace zB : B ≤ v0_92.heap.size := Nat.le_trans zB b_.size
            replace HA : Hid (AlG B v0_92 (.slice t m mc) m) := HA.out.below b_
            replace HR : Hid (∃ q, Rd v0_92 r s n c q) := by obtain ⟨q_, R_⟩ := HR.out; exact ⟨q_, R_.below b_⟩
            try rw [← hlb]
            clear hv_ hlb b_
            refine hK.out _ _ (trivial) (fun hHeld => ?_)
            clear hK KK
            refine wpAnyH_ready (rs := [12]) (by kernel_rfl) (by simp) ?_
            refine (AllReadyH.cons rfl (fun KK hK => ?_) AllReadyH.nil)
            refine wp_alm HA.out (.tmp 29) (.tmp 39) (by rfl) (by rfl) lb (by rfl) HLB.out (by omega) zB ?_
            intro g9 cap9 v0_93 hc9 b9
            replace HA : Hid (AlG B v0_93 (.slice (some ⟨g9, 0, none⟩) (m + 1) cap9) (m + 1)) := hc9
            replace H2 : Hid (Blk v0_93 g2 [.int .i64 0, .slice none 0 0]) := H2.out.belowB b9 (by omega)
            replace H3 : Hid (Blk v0_93 g3 [.int .i64 x, .slice t m mc]) := H3.out.belowB b9 (by omega)
            replace HR : Hid (∃ q, Rd v0_93 r s n c q) := by obtain ⟨q_, R_⟩ := HR.out; exact ⟨q_, Rd.below' R_ (b9.mono (by omega))⟩
            replace HS : Hid (Beside r w v0_93) := HS.out.onB (b9.mono (by omega))
            replace zB : B ≤ v0_93.heap.size := Nat.le_trans zB b9.size
            clear hc9 b9 HLB
            go_simp
            refine hK.out _ _ (trivial) (fun hHeld => ?_)
            clear hK KK
            refine wpAnyH_take (i := 13) (v := .pointer (some ⟨g3, 1, none⟩)) rfl (by kernel_rfl) (by kernel_rfl) (by kernel_rfl) (fun _ _ _ h => h) (Or.inl ⟨by kernel_rfl, ?_⟩) hHeld ?_
            · intro w' hSw
              first | (go_simp; done) | (go_simp; with_reducible rfl) | (go_simp; rw [IntKind.wrap_i64]; omega) | (go_simp; omega)
            simp only [Act.put, List.setIfInBounds_toArray, List.set_cons_zero, List.set_cons_succ]
            refine wpAnyH_ready (rs := [14]) (by kernel_rfl) (by simp) ?_
            refine (AllReadyH.cons rfl (fun KK hK => ?_) AllReadyH.nil)
            have u0 := H3.out.2.2 1 _ rfl
            have f0 := H3.out.2.1 1
            have uz := H3.out.1
            have hst := store_slT
            go_simp
            obtain ⟨v0_94, hv_⟩ : ∃ z, z = v0_93.setCell ⟨g3, 1, none⟩ (.slice (some ⟨g9, 0, none⟩) (m + 1) cap9) := ⟨_, rfl⟩
            rw [← hv_]
            have b9 : Beside g3 v0_93 v0_94 := by rw [hv_]; exact Beside.setCell g3 _ 1 _
            replace H3 : Hid (Blk v0_94 g3 [.int .i64 x, .slice (some ⟨g9, 0, none⟩) (m + 1) cap9]) := by show Blk _ _ _; rw [hv_]; exact H3.out.set 1 _
            replace H2 : Hid (Blk v0_94 g2 [.int .i64 0, .slice none 0 0]) := H2.out.beside b9 (by omega)
            replace HA : Hid (AlG B v0_94 (.slice (some ⟨g9, 0, none⟩) (m + 1) cap9) (m + 1)) := HA.out.beside b9 (by omega)
            replace HR : Hid (∃ q, Rd v0_94 r s n c q) := by obtain ⟨q_, R_⟩ := HR.out; have zr_ := R_.1; exact ⟨q_, Rd.below' R_ (b9.below (by omega) (by omega))⟩
            replace HS : Hid (Beside r w v0_94) := HS.out.onB (b9.below (by omega) HS.out.2.2.2.1)
            replace zB : B ≤ v0_94.heap.size := Nat.le_trans zB b9.2.2.2.1
            clear hv_ b9
            clear u0 f0 uz hst
            refine hK.out _ _ (trivial) (fun hHeld => ?_)
            clear hK KK
            refine wpAnyH_done (by kernel_rfl) ?_ _
            clear hHeld
            go_wp2_with fail
            go_roundw
            case rel => exact ⟨k - 1, m + 1, cap9, some ⟨g9, 0, none⟩, by go_num, by omega, by omega, HR, HS, H2, H3, zB, HA⟩
            case measure => simp [intOf]; omega
          · obtain ⟨q0, R0⟩ := HR.out
            go_simp
            go_wp2_with (first | (go_at_call 46; refine (below_any 4 R0).mono ?_; rintro e v0_95 ⟨y7, p9, rfl, y70, y76, y7m, R9, b9⟩))
            replace H2 : Hid (Blk v0_95 g2 [.int .i64 0, .slice none 0 0]) := H2.out.beside b9 (by omega)
            replace H3 : Hid (Blk v0_95 g3 [.int .i64 x, .slice t m mc]) := H3.out.beside b9 (by omega)
            replace HS : Hid (Beside r w v0_95) := HS.out.trans b9
            replace zB : B ≤ v0_95.heap.size := Nat.le_trans zB b9.2.2.2.1
            replace HA : Hid (AlG B v0_95 (.slice t m mc) m) := HA.out.beside b9 (by omega)
            replace HT : Hid (Blk v0_95 lt [.int .i64 0, .int .i64 0, .int .i64 2, .int .i64 255]) := HT.out.beside b9 (by omega)
            replace HR : Hid (∃ q, Rd v0_95 r s n c q) := ⟨_, R9⟩
            clear R0 R9 b9
            obtain ⟨j7, rfl⟩ : ∃ j : Nat, y7 = (j : Int) := ⟨y7.toNat, by omega⟩
            have j74 : j7 < 4 := by omega
            clear y70 y76 y7m
            refine hK.out _ _ (trivial) (fun hHeld => ?_)
            clear hK KK
            refine wpAnyH_take (i := 8) (v := .pointer (some ⟨lt, j7, none⟩)) rfl (by kernel_rfl) (by kernel_rfl) (by kernel_rfl) (fun _ _ _ h => h) (Or.inl ⟨by kernel_rfl, ?_⟩) hHeld ?_
            · intro w' hSw
              first | (go_simp; done) | (go_simp; with_reducible rfl) | (go_simp; rw [IntKind.wrap_i64]; omega) | (go_simp; omega)
            simp only [Act.put, List.setIfInBounds_toArray, List.set_cons_zero, List.set_cons_succ]
            refine wpAnyH_ready (rs := [1, 9]) (by kernel_rfl) (by simp) ?_
            refine (AllReadyH.cons rfl (fun KK hK => ?_) (AllReadyH.cons rfl (fun KK hK => ?_) AllReadyH.nil))
            · have c_ := H3.out.2.2 1 _ rfl
              have z_ := H3.out.1
              go_simp
              clear c_ z_
              refine hK.out _ _ (trivial) (fun hHeld => ?_)
              clear hK KK
              refine wpAnyH_ready (rs := [9]) (by kernel_rfl) (by simp) ?_
              refine (AllReadyH.cons rfl (fun KK hK => ?_) AllReadyH.nil)
              obtain ⟨o7, ho7⟩ : ∃ o7 : Int, v0_95.cell? ⟨lt, j7, none⟩ = some (.int .i64 o7) := by
                have : j7 = 0 ∨ j7 = 1 ∨ j7 = 2 ∨ j7 = 3 := by omega
                rcases this with q_ | q_ | q_ | q_ <;> subst q_
                · exact ⟨_, HT.out.2.2 0 _ rfl⟩
                · exact ⟨_, HT.out.2.2 1 _ rfl⟩
                · exact ⟨_, HT.out.2.2 2 _ rfl⟩
                · exact ⟨_, HT.out.2.2 3 _ rfl⟩
              have z_ := HT.out.1
              go_simp
              clear ho7 z_ HT
              refine hK.out _ _ (trivial) (fun hHeld => ?_)
              clear hK KK
              refine wpAnyH_take (i := 10) (v := .agg #[.int .i64 (1 + y3), .int .i64 o7, .int .i64 0, .bool false, .int .i64 0]) rfl (by kernel_rfl) (by kernel_rfl) (by kernel_rfl) (fun _ _ _ h => h) (Or.inl ⟨by kernel_rfl, ?_⟩) hHeld ?_
              · intro w' hSw
                first | (go_simp; done) | (go_simp; with_reducible rfl) | (go_simp; rw [IntKind.wrap_i64]; omega) | (go_simp; omega)
              simp only [Act.put, List.setIfInBounds_toArray, List.set_cons_zero, List.set_cons_succ]
              refine wpAnyH_ready (rs := [11]) (by kernel_rfl) (by simp) ?_
              refine (AllReadyH.cons rfl (fun KK hK => ?_) AllReadyH.nil)
              go_simp
              obtain ⟨v0_98, hv_⟩ : ∃ z, z = v0_95.alloc (.cells #[.int .i64 (1 + y3), .int .i64 o7, .int .i64 0, .bool false, .int .i64 0] 43) := ⟨_, rfl⟩
              rw [← hv_]
              obtain ⟨lb, hlb⟩ : ∃ z, z = v0_95.heap.size := ⟨_, rfl⟩
              have b_ : Below v0_95.heap.size v0_95 v0_98 := by rw [hv_]; exact below0 _ _
              have HLB : Hid (∀ j u, [Value.int .i64 (1 + y3), .int .i64 o7, .int .i64 0, .bool false, .int .i64 0][j]? = some u → v0_98.cell? ((⟨lb, 0, none⟩ : Addr).add j) = some u) := by rw [hv_, hlb]; exact World.news_of_block (cs := #[.int .i64 (1 + y3), .int .i64 o7, .int .i64 0, .bool false, .int .i64 0]) (heap_alloc_new _ _)
              replace H2 : Hid (Blk v0_98 g2 [.int .i64 0, .slice none 0 0]) := H2.out.below b_
              replace H3 : Hid (Blk v0_98 g3 [.int .i64 x, .slice t m mc]) := H3.out.below b_
              replace HS : Hid (Beside r w v0_98) := HS.out.trans (Beside.of b_)
              replace zB : B ≤ v0_98.heap.size := Nat.le_trans zB b_.size
              replace HA : Hid (AlG B v0_98 (.slice t m mc) m) := HA.out.below b_
              replace HR : Hid (∃ q, Rd v0_98 r s n c q) := by obtain ⟨q_, R_⟩ := HR.out; exact ⟨q_, R_.below b_⟩
              try rw [← hlb]
              clear hv_ hlb b_
              refine hK.out _ _ (trivial) (fun hHeld => ?_)
              clear hK KK
              refine wpAnyH_ready (rs := [12]) (by kernel_rfl) (by simp) ?_
              refine (AllReadyH.cons rfl (fun KK hK => ?_) AllReadyH.nil)
              refine wp_alm HA.out (.tmp 29) (.tmp 39) (by rfl) (by rfl) lb (by rfl) HLB.out (by omega) zB ?_
              intro g9 cap9 v0_99 hc9 b9
              replace HA : Hid (AlG B v0_99 (.slice (some ⟨g9, 0, none⟩) (m + 1) cap9) (m + 1)) := hc9
              replace H2 : Hid (Blk v0_99 g2 [.int .i64 0, .slice none 0 0]) := H2.out.belowB b9 (by omega)
              replace H3 : Hid (Blk v0_99 g3 [.int .i64 x, .slice t m mc]) := H3.out.belowB b9 (by omega)
              replace HR : Hid (∃ q, Rd v0_99 r s n c q) := by obtain ⟨q_, R_⟩ := HR.out; exact ⟨q_, Rd.below' R_ (b9.mono (by omega))⟩
              replace HS : Hid (Beside r w v0_99) := HS.out.onB (b9.mono (by omega))
              replace zB : B ≤ v0_99.heap.size := Nat.le_trans zB b9.size
              clear hc9 b9 HLB
              go_simp
              refine hK.out _ _ (trivial) (fun hHeld => ?_)
              clear hK KK
              refine wpAnyH_take (i := 13) (v := .pointer (some ⟨g3, 1, none⟩)) rfl (by kernel_rfl) (by kernel_rfl) (by kernel_rfl) (fun _ _ _ h => h) (Or.inl ⟨by kernel_rfl, ?_⟩) hHeld ?_
              · intro w' hSw
                first | (go_simp; done) | (go_simp; with_reducible rfl) | (go_simp; rw [IntKind.wrap_i64]; omega) | (go_simp; omega)
              simp only [Act.put, List.setIfInBounds_toArray, List.set_cons_zero, List.set_cons_succ]
              refine wpAnyH_ready (rs := [14]) (by kernel_rfl) (by simp) ?_
              refine (AllReadyH.cons rfl (fun KK hK => ?_) AllReadyH.nil)
              have u0 := H3.out.2.2 1 _ rfl
              have f0 := H3.out.2.1 1
              have uz := H3.out.1
              have hst := store_slT
              go_simp
              obtain ⟨v0_100, hv_⟩ : ∃ z, z = v0_99.setCell ⟨g3, 1, none⟩ (.slice (some ⟨g9, 0, none⟩) (m + 1) cap9) := ⟨_, rfl⟩
              rw [← hv_]
              have b9 : Beside g3 v0_99 v0_100 := by rw [hv_]; exact Beside.setCell g3 _ 1 _
              replace H3 : Hid (Blk v0_100 g3 [.int .i64 x, .slice (some ⟨g9, 0, none⟩) (m + 1) cap9]) := by show Blk _ _ _; rw [hv_]; exact H3.out.set 1 _
              replace H2 : Hid (Blk v0_100 g2 [.int .i64 0, .slice none 0 0]) := H2.out.beside b9 (by omega)
              replace HA : Hid (AlG B v0_100 (.slice (some ⟨g9, 0, none⟩) (m + 1) cap9) (m + 1)) := HA.out.beside b9 (by omega)
              replace HR : Hid (∃ q, Rd v0_100 r s n c q) := by obtain ⟨q_, R_⟩ := HR.out; have zr_ := R_.1; exact ⟨q_, Rd.below' R_ (b9.below (by omega) (by omega))⟩
              replace HS : Hid (Beside r w v0_100) := HS.out.onB (b9.below (by omega) HS.out.2.2.2.1)
              replace zB : B ≤ v0_100.heap.size := Nat.le_trans zB b9.2.2.2.1
              clear hv_ b9
              clear u0 f0 uz hst
              refine hK.out _ _ (trivial) (fun hHeld => ?_)
              clear hK KK
              refine wpAnyH_done (by kernel_rfl) ?_ _
              clear hHeld
              go_wp2_with fail
              go_roundw
              case rel => exact ⟨k - 1, m + 1, cap9, some ⟨g9, 0, none⟩, by go_num, by omega, by omega, HR, HS, H2, H3, zB, HA⟩
              case measure => simp [intOf]; omega
            · obtain ⟨o7, ho7⟩ : ∃ o7 : Int, v0_95.cell? ⟨lt, j7, none⟩ = some (.int .i64 o7) := by
                have : j7 = 0 ∨ j7 = 1 ∨ j7 = 2 ∨ j7 = 3 := by omega
                rcases this with q_ | q_ | q_ | q_ <;> subst q_
                · exact ⟨_, HT.out.2.2 0 _ rfl⟩
                · exact ⟨_, HT.out.2.2 1 _ rfl⟩
                · exact ⟨_, HT.out.2.2 2 _ rfl⟩
                · exact ⟨_, HT.out.2.2 3 _ rfl⟩
              have z_ := HT.out.1
              go_simp
              clear ho7 z_ HT
              refine hK.out _ _ (trivial) (fun hHeld => ?_)
              clear hK KK
              refine wpAnyH_take (i := 10) (v := .agg #[.int .i64 (1 + y3), .int .i64 o7, .int .i64 0, .bool false, .int .i64 0]) rfl (by kernel_rfl) (by kernel_rfl) (by kernel_rfl) (fun _ _ _ h => h) (Or.inl ⟨by kernel_rfl, ?_⟩) hHeld ?_
              · intro w' hSw
                first | (go_simp; done) | (go_simp; with_reducible rfl) | (go_simp; rw [IntKind.wrap_i64]; omega) | (go_simp; omega)
              simp only [Act.put, List.setIfInBounds_toArray, List.set_cons_zero, List.set_cons_succ]
              refine wpAnyH_ready (rs := [1, 11]) (by kernel_rfl) (by simp) ?_
              refine (AllReadyH.cons rfl (fun KK hK => ?_) (AllReadyH.cons rfl (fun KK hK => ?_) AllReadyH.nil))
              · have c_ := H3.out.2.2 1 _ rfl
                have z_ := H3.out.1
                go_simp
                clear c_ z_
                refine hK.out _ _ (trivial) (fun hHeld => ?_)
                clear hK KK
                refine wpAnyH_ready (rs := [11]) (by kernel_rfl) (by simp) ?_
                refine (AllReadyH.cons rfl (fun KK hK => ?_) AllReadyH.nil)
                go_simp
                obtain ⟨v0_103, hv_⟩ : ∃ z, z = v0_95.alloc (.cells #[.int .i64 (1 + y3), .int .i64 o7, .int .i64 0, .bool false, .int .i64 0] 43) := ⟨_, rfl⟩
                rw [← hv_]
                obtain ⟨lb, hlb⟩ : ∃ z, z = v0_95.heap.size := ⟨_, rfl⟩
                have b_ : Below v0_95.heap.size v0_95 v0_103 := by rw [hv_]; exact below0 _ _
                have HLB : Hid (∀ j u, [Value.int .i64 (1 + y3), .int .i64 o7, .int .i64 0, .bool false, .int .i64 0][j]? = some u → v0_103.cell? ((⟨lb, 0, none⟩ : Addr).add j) = some u) := by rw [hv_, hlb]; exact World.news_of_block (cs := #[.int .i64 (1 + y3), .int .i64 o7, .int .i64 0, .bool false, .int .i64 0]) (heap_alloc_new _ _)
                replace H2 : Hid (Blk v0_103 g2 [.int .i64 0, .slice none 0 0]) := H2.out.below b_
                replace H3 : Hid (Blk v0_103 g3 [.int .i64 x, .slice t m mc]) := H3.out.below b_
                replace HS : Hid (Beside r w v0_103) := HS.out.trans (Beside.of b_)
                replace zB : B ≤ v0_103.heap.size := Nat.le_trans zB b_.size
                replace HA : Hid (AlG B v0_103 (.slice t m mc) m) := HA.out.below b_
                replace HR : Hid (∃ q, Rd v0_103 r s n c q) := by obtain ⟨q_, R_⟩ := HR.out; exact ⟨q_, R_.below b_⟩
                try rw [← hlb]
                clear hv_ hlb b_
                refine hK.out _ _ (trivial) (fun hHeld => ?_)
                clear hK KK
                refine wpAnyH_ready (rs := [12]) (by kernel_rfl) (by simp) ?_
                refine (AllReadyH.cons rfl (fun KK hK => ?_) AllReadyH.nil)
                refine wp_alm HA.out (.tmp 29) (.tmp 39) (by rfl) (by rfl) lb (by rfl) HLB.out (by omega) zB ?_
                intro g9 cap9 v0_104 hc9 b9
                replace HA : Hid (AlG B v0_104 (.slice (some ⟨g9, 0, none⟩) (m + 1) cap9) (m + 1)) := hc9
                replace H2 : Hid (Blk v0_104 g2 [.int .i64 0, .slice none 0 0]) := H2.out.belowB b9 (by omega)
                replace H3 : Hid (Blk v0_104 g3 [.int .i64 x, .slice t m mc]) := H3.out.belowB b9 (by omega)
                replace HR : Hid (∃ q, Rd v0_104 r s n c q) := by obtain ⟨q_, R_⟩ := HR.out; exact ⟨q_, Rd.below' R_ (b9.mono (by omega))⟩
                replace HS : Hid (Beside r w v0_104) := HS.out.onB (b9.mono (by omega))
                replace zB : B ≤ v0_104.heap.size := Nat.le_trans zB b9.size
                clear hc9 b9 HLB
                go_simp
                refine hK.out _ _ (trivial) (fun hHeld => ?_)
                clear hK KK
                refine wpAnyH_take (i := 13) (v := .pointer (some ⟨g3, 1, none⟩)) rfl (by kernel_rfl) (by kernel_rfl) (by kernel_rfl) (fun _ _ _ h => h) (Or.inl ⟨by kernel_rfl, ?_⟩) hHeld ?_
                · intro w' hSw
                  first | (go_simp; done) | (go_simp; with_reducible rfl) | (go_simp; rw [IntKind.wrap_i64]; omega) | (go_simp; omega)
                simp only [Act.put, List.setIfInBounds_toArray, List.set_cons_zero, List.set_cons_succ]
                refine wpAnyH_ready (rs := [14]) (by kernel_rfl) (by simp) ?_
                refine (AllReadyH.cons rfl (fun KK hK => ?_) AllReadyH.nil)
                have u0 := H3.out.2.2 1 _ rfl
                have f0 := H3.out.2.1 1
                have uz := H3.out.1
                have hst := store_slT
                go_simp
                obtain ⟨v0_105, hv_⟩ : ∃ z, z = v0_104.setCell ⟨g3, 1, none⟩ (.slice (some ⟨g9, 0, none⟩) (m + 1) cap9) := ⟨_, rfl⟩
                rw [← hv_]
                have b9 : Beside g3 v0_104 v0_105 := by rw [hv_]; exact Beside.setCell g3 _ 1 _
                replace H3 : Hid (Blk v0_105 g3 [.int .i64 x, .slice (some ⟨g9, 0, none⟩) (m + 1) cap9]) := by show Blk _ _ _; rw [hv_]; exact H3.out.set 1 _
                replace H2 : Hid (Blk v0_105 g2 [.int .i64 0, .slice none 0 0]) := H2.out.beside b9 (by omega)
                replace HA : Hid (AlG B v0_105 (.slice (some ⟨g9, 0, none⟩) (m + 1) cap9) (m + 1)) := HA.out.beside b9 (by omega)
                replace HR : Hid (∃ q, Rd v0_105 r s n c q) := by obtain ⟨q_, R_⟩ := HR.out; have zr_ := R_.1; exact ⟨q_, Rd.below' R_ (b9.below (by omega) (by omega))⟩
                replace HS : Hid (Beside r w v0_105) := HS.out.onB (b9.below (by omega) HS.out.2.2.2.1)
                replace zB : B ≤ v0_105.heap.size := Nat.le_trans zB b9.2.2.2.1
                clear hv_ b9
                clear u0 f0 uz hst
                refine hK.out _ _ (trivial) (fun hHeld => ?_)
                clear hK KK
                refine wpAnyH_done (by kernel_rfl) ?_ _
                clear hHeld
                go_wp2_with fail
                go_roundw
                case rel => exact ⟨k - 1, m + 1, cap9, some ⟨g9, 0, none⟩, by go_num, by omega, by omega, HR, HS, H2, H3, zB, HA⟩
                case measure => simp [intOf]; omega
              · go_simp
                obtain ⟨v0_106, hv_⟩ : ∃ z, z = v0_95.alloc (.cells #[.int .i64 (1 + y3), .int .i64 o7, .int .i64 0, .bool false, .int .i64 0] 43) := ⟨_, rfl⟩
                rw [← hv_]
                obtain ⟨lb, hlb⟩ : ∃ z, z = v0_95.heap.size := ⟨_, rfl⟩
                have b_ : Below v0_95.heap.size v0_95 v0_106 := by rw [hv_]; exact below0 _ _
                have HLB : Hid (∀ j u, [Value.int .i64 (1 + y3), .int .i64 o7, .int .i64 0, .bool false, .int .i64 0][j]? = some u → v0_106.cell? ((⟨lb, 0, none⟩ : Addr).add j) = some u) := by rw [hv_, hlb]; exact World.news_of_block (cs := #[.int .i64 (1 + y3), .int .i64 o7, .int .i64 0, .bool false, .int .i64 0]) (heap_alloc_new _ _)
                replace H2 : Hid (Blk v0_106 g2 [.int .i64 0, .slice none 0 0]) := H2.out.below b_
                replace H3 : Hid (Blk v0_106 g3 [.int .i64 x, .slice t m mc]) := H3.out.below b_
                replace HS : Hid (Beside r w v0_106) := HS.out.trans (Beside.of b_)
                replace zB : B ≤ v0_106.heap.size := Nat.le_trans zB b_.size
                replace HA : Hid (AlG B v0_106 (.slice t m mc) m) := HA.out.below b_
                replace HR : Hid (∃ q, Rd v0_106 r s n c q) := by obtain ⟨q_, R_⟩ := HR.out; exact ⟨q_, R_.below b_⟩
                try rw [← hlb]
                clear hv_ hlb b_
                refine hK.out _ _ (trivial) (fun hHeld => ?_)
                clear hK KK
                refine wpAnyH_ready (rs := [1]) (by kernel_rfl) (by simp) ?_
                refine (AllReadyH.cons rfl (fun KK hK => ?_) AllReadyH.nil)
                have c_ := H3.out.2.2 1 _ rfl
                have z_ := H3.out.1
                go_simp
                clear c_ z_
                refine hK.out _ _ (trivial) (fun hHeld => ?_)
                clear hK KK
                refine wpAnyH_ready (rs := [12]) (by kernel_rfl) (by simp) ?_
                refine (AllReadyH.cons rfl (fun KK hK => ?_) AllReadyH.nil)
                refine wp_alm HA.out (.tmp 29) (.tmp 39) (by rfl) (by rfl) lb (by rfl) HLB.out (by omega) zB ?_
                intro g9 cap9 v0_108 hc9 b9
                replace HA : Hid (AlG B v0_108 (.slice (some ⟨g9, 0, none⟩) (m + 1) cap9) (m + 1)) := hc9
                replace H2 : Hid (Blk v0_108 g2 [.int .i64 0, .slice none 0 0]) := H2.out.belowB b9 (by omega)
                replace H3 : Hid (Blk v0_108 g3 [.int .i64 x, .slice t m mc]) := H3.out.belowB b9 (by omega)
                replace HR : Hid (∃ q, Rd v0_108 r s n c q) := by obtain ⟨q_, R_⟩ := HR.out; exact ⟨q_, Rd.below' R_ (b9.mono (by omega))⟩
                replace HS : Hid (Beside r w v0_108) := HS.out.onB (b9.mono (by omega))
                replace zB : B ≤ v0_108.heap.size := Nat.le_trans zB b9.size
                clear hc9 b9 HLB
                go_simp
                refine hK.out _ _ (trivial) (fun hHeld => ?_)
                clear hK KK
                refine wpAnyH_take (i := 13) (v := .pointer (some ⟨g3, 1, none⟩)) rfl (by kernel_rfl) (by kernel_rfl) (by kernel_rfl) (fun _ _ _ h => h) (Or.inl ⟨by kernel_rfl, ?_⟩) hHeld ?_
                · intro w' hSw
                  first | (go_simp; done) | (go_simp; with_reducible rfl) | (go_simp; rw [IntKind.wrap_i64]; omega) | (go_simp; omega)
                simp only [Act.put, List.setIfInBounds_toArray, List.set_cons_zero, List.set_cons_succ]
                refine wpAnyH_ready (rs := [14]) (by kernel_rfl) (by simp) ?_
                refine (AllReadyH.cons rfl (fun KK hK => ?_) AllReadyH.nil)
                have u0 := H3.out.2.2 1 _ rfl
                have f0 := H3.out.2.1 1
                have uz := H3.out.1
                have hst := store_slT
                go_simp
                obtain ⟨v0_109, hv_⟩ : ∃ z, z = v0_108.setCell ⟨g3, 1, none⟩ (.slice (some ⟨g9, 0, none⟩) (m + 1) cap9) := ⟨_, rfl⟩
                rw [← hv_]
                have b9 : Beside g3 v0_108 v0_109 := by rw [hv_]; exact Beside.setCell g3 _ 1 _
                replace H3 : Hid (Blk v0_109 g3 [.int .i64 x, .slice (some ⟨g9, 0, none⟩) (m + 1) cap9]) := by show Blk _ _ _; rw [hv_]; exact H3.out.set 1 _
                replace H2 : Hid (Blk v0_109 g2 [.int .i64 0, .slice none 0 0]) := H2.out.beside b9 (by omega)
                replace HA : Hid (AlG B v0_109 (.slice (some ⟨g9, 0, none⟩) (m + 1) cap9) (m + 1)) := HA.out.beside b9 (by omega)
                replace HR : Hid (∃ q, Rd v0_109 r s n c q) := by obtain ⟨q_, R_⟩ := HR.out; have zr_ := R_.1; exact ⟨q_, Rd.below' R_ (b9.below (by omega) (by omega))⟩
                replace HS : Hid (Beside r w v0_109) := HS.out.onB (b9.below (by omega) HS.out.2.2.2.1)
                replace zB : B ≤ v0_109.heap.size := Nat.le_trans zB b9.2.2.2.1
                clear hv_ b9
                clear u0 f0 uz hst
                refine hK.out _ _ (trivial) (fun hHeld => ?_)
                clear hK KK
                refine wpAnyH_done (by kernel_rfl) ?_ _
                clear hHeld
                go_wp2_with fail
                go_roundw
                case rel => exact ⟨k - 1, m + 1, cap9, some ⟨g9, 0, none⟩, by go_num, by omega, by omega, HR, HS, H2, H3, zB, HA⟩
                case measure => simp [intOf]; omega
    case neg =>
      obtain rfl : k = 0 := by omega
      obtain ⟨V, hV⟩ := HA.out.own
      have hm1 : 1 ≤ m := by omega
      have hm2 : m ≤ 65536 := by omega
      replace HA : Hid (OwnAlarm B wr t m V) := hV
      clear hV hk1 hk2 hk
      have hk0 : ¬ (0 : Int) < ((0 : Nat) : Int) := by omega
      obtain ⟨q0, R0⟩ := HR.out
      go_wp2_with fail
      refine (below_any 5 R0).mono ?_
      rintro e w4 ⟨kk, p9, rfl, k0_, k6_, km_, R9, b9⟩
      replace H2 : Hid (Blk w4 g2 [.int .i64 0, .slice none 0 0]) := H2.out.beside b9 (by omega)
      replace H3 : Hid (Blk w4 g3 [.int .i64 x, .slice t m mc]) := H3.out.beside b9 (by omega)
      replace HS : Hid (Beside r w w4) := HS.out.trans b9
      replace zB : B ≤ w4.heap.size := Nat.le_trans zB b9.2.2.2.1
      replace HA : Hid (OwnAlarm B w4 t m V) := HA.out.besideA b9 (by omega)
      replace HR : Hid (∃ q, Rd w4 r s n c q) := ⟨_, R9⟩
      clear R0 R9 b9 hk0
      obtain ⟨k9, rfl⟩ : ∃ k : Nat, kk = (k : Int) := ⟨kk.toNat, by omega⟩
      have k96 : k9 ≤ 65536 := by omega
      clear k0_ k6_ km_
      go_wp2_with fail
      go_loopw [5] (fun v wx => ∃ (k m mc : Nat) (t : Option Addr) (x : Int) (V : Nat → Int × Int × Int × Bool × Int), v = .int .i64 (k : Int) ∧ k ≤ 65536 ∧ 1 ≤ m ∧ m ≤ 65536 ∧ Hid (∃ q, Rd wx r s n c q) ∧ Hid (Beside r w wx) ∧ Hid (Blk wx g2 [.int .i64 0, .slice none 0 0]) ∧ Hid (Blk wx g3 [.int .i64 x, .slice t m mc]) ∧ B ≤ wx.heap.size ∧ Hid (OwnAlarm B wx t m V)) (fun v _ => (intOf v).toNat)
      case atStart => exact ⟨k9, m, mc, t, x, V, rfl, by omega, hm1, hm2, HR, HS, H2, H3, zB, HA⟩
      case round =>
        clear HR HS H2 H3 zB HA hm1 hm2
        obtain ⟨k, m, mc, t, x, V, rfl, hk6, hm1, hm2, HR, HS, H2, H3, zB, HA⟩ := hrel
        rename World => wr
        by_cases hk : 0 < k
        case pos =>
          have hki : (0 : Int) < (k : Int) := by omega
          go_upto_region 9 with fail
          go_cut [6, 7, 8] (fun v6 v7 v8 wx => ∃ (g6 : Nat) (x6 : Int) (s0 : Option Addr) (n0 c0 : Nat) (ok : Bool), v6 = .pointer (some ⟨g6, 0, none⟩) ∧ v8 = .bool ok ∧ Hid (Blk wx g6 [.int .i64 x6, .slice s0 n0 c0]) ∧ Hid (ok = true → n0 = m ∧ ∃ V' : Nat → Int × Int × Int × Bool × Int, OwnAlarm B wx s0 n0 V') ∧ Hid (∃ q, Rd wx r s n c q) ∧ Hid (Beside r w wx) ∧ Hid (Blk wx g2 [.int .i64 0, .slice none 0 0]) ∧ Hid (Blk wx g3 [.int .i64 x, .slice t m mc]) ∧ B ≤ wx.heap.size ∧ Hid (OwnAlarm B wx t m V))
          case first =>
            refine wp_region_held_drew (S := fun w' => w'.cell? ⟨g3, 0, none⟩ = some (.int .i64 x) ∧ w'.cell? ⟨g3, 1, none⟩ = some (.slice t m mc) ∧ g3 < w'.heap.size) (by kernel_rfl) ?_ (fun hHeld => ?_)
            · exact ⟨H3.out.2.2 0 _ rfl, H3.out.2.2 1 _ rfl, H3.out.1⟩
            obtain ⟨v0, hv0⟩ : ∃ z, z = wr.drew := ⟨_, rfl⟩
            try rw [← hv0] at hHeld
            rw [← hv0]
            have bv0 : Below wr.heap.size wr v0 := by rw [hv0]; exact Below.drew (Below.refl _ _)
            clear hv0
            replace H2 : Hid (Blk v0 g2 [.int .i64 0, .slice none 0 0]) := H2.out.below bv0
            replace H3 : Hid (Blk v0 g3 [.int .i64 x, .slice t m mc]) := H3.out.below bv0
            replace HS : Hid (Beside r w v0) := HS.out.trans (Beside.of bv0)
            replace zB : B ≤ v0.heap.size := Nat.le_trans zB bv0.size
            replace HA : Hid (OwnAlarm B v0 t m V) := HA.out.belowA bv0
            replace HR : Hid (∃ q, Rd v0 r s n c q) := by obtain ⟨q_, R_⟩ := HR.out; exact ⟨q_, R_.below bv0⟩
            clear bv0
            refine wpAnyH_take (i := 0) (v := .agg #[.int .i64 x, .slice t m mc]) rfl (by kernel_rfl) (by kernel_rfl) (by kernel_rfl) (fun _ _ _ h => h) (Or.inl ⟨by kernel_rfl, ?_⟩) hHeld ?_
            · intro w' hSw
              obtain ⟨hc0, hc1, hz0⟩ := hSw
              first | (go_simp; done) | (go_simp; with_reducible rfl) | (go_simp; rw [IntKind.wrap_i64]; omega) | (go_simp; omega)
            simp only [Act.put, List.setIfInBounds_toArray, List.set_cons_zero, List.set_cons_succ]
            refine wpAnyH_take (i := 1) (v := .pointer (some ⟨r, 0, none⟩)) rfl (by kernel_rfl) (by kernel_rfl) (by kernel_rfl) (fun _ _ _ h => h) (Or.inl ⟨by kernel_rfl, ?_⟩) hHeld ?_
            · intro w' hSw
              obtain ⟨hc0, hc1, hz0⟩ := hSw
              first | (go_simp; done) | (go_simp; with_reducible rfl) | (go_simp; rw [IntKind.wrap_i64]; omega) | (go_simp; omega)
            simp only [Act.put, List.setIfInBounds_toArray, List.set_cons_zero, List.set_cons_succ]
            refine wpAnyH_take (i := 2) (v := .pointer (some ⟨g3, 1, none⟩)) rfl (by kernel_rfl) (by kernel_rfl) (by kernel_rfl) (fun _ _ _ h => h) (Or.inl ⟨by kernel_rfl, ?_⟩) hHeld ?_
            · intro w' hSw
              obtain ⟨hc0, hc1, hz0⟩ := hSw
              first | (go_simp; done) | (go_simp; with_reducible rfl) | (go_simp; rw [IntKind.wrap_i64]; omega) | (go_simp; omega)
            simp only [Act.put, List.setIfInBounds_toArray, List.set_cons_zero, List.set_cons_succ]
            refine wpAnyH_take (i := 3) (v := .slice t m mc) rfl (by kernel_rfl) (by kernel_rfl) (by kernel_rfl) (fun _ _ _ h => h) (Or.inl ⟨by kernel_rfl, ?_⟩) hHeld ?_
            · intro w' hSw
              obtain ⟨hc0, hc1, hz0⟩ := hSw
              first | (go_simp; done) | (go_simp; with_reducible rfl) | (go_simp; rw [IntKind.wrap_i64]; omega) | (go_simp; omega)
            simp only [Act.put, List.setIfInBounds_toArray, List.set_cons_zero, List.set_cons_succ]
            refine wpAnyH_take (i := 4) (v := .int .i64 (m : Int)) rfl (by kernel_rfl) (by kernel_rfl) (by kernel_rfl) (fun _ _ _ h => h) (Or.inl ⟨by kernel_rfl, ?_⟩) hHeld ?_
            · intro w' hSw
              obtain ⟨hc0, hc1, hz0⟩ := hSw
              first | (go_simp; done) | (go_simp; with_reducible rfl) | (go_simp; rw [IntKind.wrap_i64]; omega) | (go_simp; omega)
            simp only [Act.put, List.setIfInBounds_toArray, List.set_cons_zero, List.set_cons_succ]
            refine wpAnyH_ready (rs := [5, 11]) (by kernel_rfl) (by simp) ?_
            refine (AllReadyH.cons rfl (fun KK hK => ?_) (AllReadyH.cons rfl (fun KK hK => ?_) AllReadyH.nil))
            · obtain ⟨q0, R0⟩ := HR.out
              have zrw := R0.1
              have HzW : Hid (B ≤ v0.heap.size) := zB
              go_simp
              go_wp2_with (first | (go_at_call 44; refine (scan_any m (by omega) (by omega) R0).mono ?_; rintro e v0_1 hK; unfold ScPost at hK; obtain ⟨mo, s1, n1, c1, s2, n2, c2, s3, n3, c3, p9, rfl, q1, q2, q3, hc, R9, b9⟩ := hK))
              have HC : Hid (Sc3 B v0_1 (.slice s1 n1 c1) n1 (.slice s2 n2 c2) n2 (.slice s3 n3 c3) n3) := hc.low HzW.out
              replace H2 : Hid (Blk v0_1 g2 [.int .i64 0, .slice none 0 0]) := H2.out.beside b9 (by omega)
              replace H3 : Hid (Blk v0_1 g3 [.int .i64 x, .slice t m mc]) := H3.out.beside b9 (by omega)
              replace HS : Hid (Beside r w v0_1) := HS.out.trans b9
              replace zB : B ≤ v0_1.heap.size := Nat.le_trans zB b9.2.2.2.1
              replace HA : Hid (OwnAlarm B v0_1 t m V) := HA.out.besideA b9 (by omega)
              replace HR : Hid (∃ q, Rd v0_1 r s n c q) := ⟨_, R9⟩
              clear R0 R9 b9 zrw HzW hc
              refine hK.out _ _ (⟨H3.out.2.2 0 _ rfl, H3.out.2.2 1 _ rfl, H3.out.1⟩) (fun hHeld => ?_)
              clear hK KK
              refine wpAnyH_ready (rs := [6, 11]) (by kernel_rfl) (by simp) ?_
              refine (AllReadyH.cons rfl (fun KK hK => ?_) (AllReadyH.cons rfl (fun KK hK => ?_) AllReadyH.nil))
              · obtain ⟨⟨F1, l1⟩, ⟨U2, l2⟩, U3, l3⟩ := HC.out
                have HTh : Hid (RowB v0_1 s1 n1 F1) := l1.row
                have HSe : Hid (RowI v0_1 s2 n2 U2) := l2.srcS
                have HSh : Hid (RowShelf v0_1 s3 n3 (fun i => (U3 (i * 2), U3 (i * 2 + 1)))) := l3.shelf
                have HAr : Hid (RowAlarm v0_1 t m V) := HA.out.row
                have HzW : Hid (B ≤ v0_1.heap.size) := zB
                clear l1 l2 l3 HC
                go_simp
                go_wp2_with (first | (go_at_call 30; refine (specBoardStep_any x t m mc V mo s1 n1 c1 F1 s2 n2 c2 U2 s3 n3 c3 (fun i => (U3 (i * 2), U3 (i * 2 + 1))) _ (by omega) (by omega) (by omega) (by omega) HAr HTh HSe HSh).mono ?_; rintro e v0_2 hB; obtain ⟨x6, s0, n0, c0, s7, n7, c7, ok, rfl, hok, b9⟩ := bs_any hB))
                have HOK : Hid (ok = true → n0 = m ∧ ∃ V' : Nat → Int × Int × Int × Bool × Int, OwnAlarm B v0_2 s0 n0 V') := fun z => ⟨(hok z).1, by obtain ⟨V', h_⟩ := (hok z).2; exact ⟨V', h_.lowA HzW.out⟩⟩
                replace H2 : Hid (Blk v0_2 g2 [.int .i64 0, .slice none 0 0]) := H2.out.below b9
                replace H3 : Hid (Blk v0_2 g3 [.int .i64 x, .slice t m mc]) := H3.out.below b9
                replace HS : Hid (Beside r w v0_2) := HS.out.trans (Beside.of b9)
                replace zB : B ≤ v0_2.heap.size := Nat.le_trans zB b9.size
                replace HA : Hid (OwnAlarm B v0_2 t m V) := HA.out.belowA b9
                replace HR : Hid (∃ q, Rd v0_2 r s n c q) := by obtain ⟨q_, R_⟩ := HR.out; exact ⟨q_, R_.below b9⟩
                clear b9 hB hok HTh HSe HSh HAr HzW
                refine hK.out _ _ (⟨H3.out.2.2 0 _ rfl, H3.out.2.2 1 _ rfl, H3.out.1⟩) (fun hHeld => ?_)
                clear hK KK
                refine wpAnyH_take (i := 7) (v := .tuple #[.agg #[.int .i64 x6, .slice s0 n0 c0], .slice s7 n7 c7, .bool ok]) rfl (by kernel_rfl) (by kernel_rfl) (by kernel_rfl) (fun _ _ _ h => h) (Or.inl ⟨by kernel_rfl, ?_⟩) hHeld ?_
                · intro w' hSw
                  obtain ⟨hc0, hc1, hz0⟩ := hSw
                  first | (go_simp; done) | (go_simp; with_reducible rfl) | (go_simp; rw [IntKind.wrap_i64]; omega) | (go_simp; omega)
                simp only [Act.put, List.setIfInBounds_toArray, List.set_cons_zero, List.set_cons_succ]
                refine wpAnyH_take (i := 8) (v := .agg #[.int .i64 x6, .slice s0 n0 c0]) rfl (by kernel_rfl) (by kernel_rfl) (by kernel_rfl) (fun _ _ _ h => h) (Or.inl ⟨by kernel_rfl, ?_⟩) hHeld ?_
                · intro w' hSw
                  obtain ⟨hc0, hc1, hz0⟩ := hSw
                  first | (go_simp; done) | (go_simp; with_reducible rfl) | (go_simp; rw [IntKind.wrap_i64]; omega) | (go_simp; omega)
                simp only [Act.put, List.setIfInBounds_toArray, List.set_cons_zero, List.set_cons_succ]
                refine wpAnyH_take (i := 9) (v := .slice s7 n7 c7) rfl (by kernel_rfl) (by kernel_rfl) (by kernel_rfl) (fun _ _ _ h => h) (Or.inl ⟨by kernel_rfl, ?_⟩) hHeld ?_
                · intro w' hSw
                  obtain ⟨hc0, hc1, hz0⟩ := hSw
                  first | (go_simp; done) | (go_simp; with_reducible rfl) | (go_simp; rw [IntKind.wrap_i64]; omega) | (go_simp; omega)
                simp only [Act.put, List.setIfInBounds_toArray, List.set_cons_zero, List.set_cons_succ]
                refine wpAnyH_take (i := 10) (v := .bool ok) rfl (by kernel_rfl) (by kernel_rfl) (by kernel_rfl) (fun _ _ _ h => h) (Or.inl ⟨by kernel_rfl, ?_⟩) hHeld ?_
                · intro w' hSw
                  obtain ⟨hc0, hc1, hz0⟩ := hSw
                  first | (go_simp; done) | (go_simp; with_reducible rfl) | (go_simp; rw [IntKind.wrap_i64]; omega) | (go_simp; omega)
                simp only [Act.put, List.setIfInBounds_toArray, List.set_cons_zero, List.set_cons_succ]
                refine wpAnyH_ready (rs := [11]) (by kernel_rfl) (by simp) ?_
                refine (AllReadyH.cons rfl (fun KK hK => ?_) AllReadyH.nil)
                go_simp
                obtain ⟨v0_3, hv_⟩ : ∃ z, z = v0_2.alloc (.cells #[.int .i64 0, .slice none 0 0] 26) := ⟨_, rfl⟩
                rw [← hv_]
                obtain ⟨g6, hg6⟩ : ∃ z, z = v0_2.heap.size := ⟨_, rfl⟩
                have b_ : Below v0_2.heap.size v0_2 v0_3 := by rw [hv_]; exact below0 _ _
                have H6 : Hid (Blk v0_3 g6 [.int .i64 0, .slice none 0 0]) := by show Blk _ _ _; rw [hv_, hg6]; exact Blk.new v0_2 #[.int .i64 0, .slice none 0 0] _
                have zB6 : B ≤ g6 := by omega
                have zr6 : r < g6 := by obtain ⟨q_, R_⟩ := HR.out; have := R_.1; omega
                have HNA : Hid (∀ b, t = some ⟨b, 0, none⟩ → b ≠ g6) := fun b e => by
                  have h_ := HA.out
                  rw [e] at h_
                  have := (h_.ltA (by omega)).2
                  omega
                have HNE : Hid (ok = true → ∀ b, s0 = some ⟨b, 0, none⟩ → b ≠ g6) := fun z b e => by
                  obtain ⟨e0, V', h_⟩ := HOK.out z
                  rw [e] at h_
                  have := (h_.ltA (by omega)).2
                  omega
                replace H2 : Hid (Blk v0_3 g2 [.int .i64 0, .slice none 0 0]) := H2.out.below b_
                replace H3 : Hid (Blk v0_3 g3 [.int .i64 x, .slice t m mc]) := H3.out.below b_
                replace HS : Hid (Beside r w v0_3) := HS.out.trans (Beside.of b_)
                replace zB : B ≤ v0_3.heap.size := Nat.le_trans zB b_.size
                replace HA : Hid (OwnAlarm B v0_3 t m V) := HA.out.belowA b_
                replace HR : Hid (∃ q, Rd v0_3 r s n c q) := by obtain ⟨q_, R_⟩ := HR.out; exact ⟨q_, R_.below b_⟩
                replace HOK : Hid (ok = true → n0 = m ∧ ∃ V' : Nat → Int × Int × Int × Bool × Int, OwnAlarm B v0_3 s0 n0 V') := fun z => ⟨(HOK.out z).1, by obtain ⟨V', h_⟩ := (HOK.out z).2; exact ⟨V', h_.belowA b_⟩⟩
                try rw [← hg6]
                clear hv_ hg6 b_
                refine hK.out _ _ (⟨H3.out.2.2 0 _ rfl, H3.out.2.2 1 _ rfl, H3.out.1⟩) (fun hHeld => ?_)
                clear hK KK
                refine wpAnyH_ready (rs := [12]) (by kernel_rfl) (by simp) ?_
                refine (AllReadyH.cons rfl (fun KK hK => ?_) AllReadyH.nil)
                have u0 := H6.out.2.2 0 _ rfl
                have u1 := H6.out.2.2 1 _ rfl
                have f0 := H6.out.2.1 0
                have f1 := H6.out.2.1 1
                have uz := H6.out.1
                have hst := store_slT
                go_simp
                obtain ⟨v0_4, hv_⟩ : ∃ z, z = (v0_3.setCell ⟨g6, 0, none⟩ (.int .i64 x6)).setCell ⟨g6, 1, none⟩ (.slice s0 n0 c0) := ⟨_, rfl⟩
                rw [← hv_]
                have b9 : Beside g6 v0_3 v0_4 := by rw [hv_]; exact (Beside.setCell g6 _ 0 _).trans (Beside.setCell g6 _ 1 _)
                replace H6 : Hid (Blk v0_4 g6 [.int .i64 x6, .slice s0 n0 c0]) := by show Blk _ _ _; rw [hv_]; exact (H6.out.set 0 _).set 1 _
                replace H2 : Hid (Blk v0_4 g2 [.int .i64 0, .slice none 0 0]) := H2.out.beside b9 (by omega)
                replace H3 : Hid (Blk v0_4 g3 [.int .i64 x, .slice t m mc]) := H3.out.beside b9 (by omega)
                replace HA : Hid (OwnAlarm B v0_4 t m V) := HA.out.besideN b9 HNA.out
                replace HOK : Hid (ok = true → n0 = m ∧ ∃ V' : Nat → Int × Int × Int × Bool × Int, OwnAlarm B v0_4 s0 n0 V') := fun z => ⟨(HOK.out z).1, by obtain ⟨V', h_⟩ := (HOK.out z).2; exact ⟨V', h_.besideN b9 (HNE.out z)⟩⟩
                replace HR : Hid (∃ q, Rd v0_4 r s n c q) := by obtain ⟨q_, R_⟩ := HR.out; have zr_ := R_.1; exact ⟨q_, Rd.below' R_ (b9.below (by omega) (by omega))⟩
                replace HS : Hid (Beside r w v0_4) := HS.out.onB (b9.below (by omega) HS.out.2.2.2.1)
                replace zB : B ≤ v0_4.heap.size := Nat.le_trans zB b9.2.2.2.1
                clear hv_ b9 u0 u1 f0 f1 uz hst
                refine hK.out _ _ (⟨H3.out.2.2 0 _ rfl, H3.out.2.2 1 _ rfl, H3.out.1⟩) (fun hHeld => ?_)
                clear hK KK
                refine wpAnyH_ready (rs := [13]) (by kernel_rfl) (by simp) ?_
                refine (AllReadyH.cons rfl (fun KK hK => ?_) AllReadyH.nil)
                go_simp
                refine hK.out _ _ (⟨H3.out.2.2 0 _ rfl, H3.out.2.2 1 _ rfl, H3.out.1⟩) (fun hHeld => ?_)
                clear hK KK
                refine wpAnyH_ready (rs := [14]) (by kernel_rfl) (by simp) ?_
                refine (AllReadyH.cons rfl (fun KK hK => ?_) AllReadyH.nil)
                go_simp
                refine hK.out _ _ (⟨H3.out.2.2 0 _ rfl, H3.out.2.2 1 _ rfl, H3.out.1⟩) (fun hHeld => ?_)
                clear hK KK
                refine wpAnyH_done (by kernel_rfl) ?_ _
                clear hHeld
                go_wp2_with fail
                go_meet
                exact ⟨g6, x6, s0, n0, c0, ok, rfl, rfl, H6, HOK, HR, HS, H2, H3, zB, HA⟩
              · go_simp
                obtain ⟨v0_7, hv_⟩ : ∃ z, z = v0_1.alloc (.cells #[.int .i64 0, .slice none 0 0] 26) := ⟨_, rfl⟩
                rw [← hv_]
                obtain ⟨g6, hg6⟩ : ∃ z, z = v0_1.heap.size := ⟨_, rfl⟩
                have b_ : Below v0_1.heap.size v0_1 v0_7 := by rw [hv_]; exact below0 _ _
                have H6 : Hid (Blk v0_7 g6 [.int .i64 0, .slice none 0 0]) := by show Blk _ _ _; rw [hv_, hg6]; exact Blk.new v0_1 #[.int .i64 0, .slice none 0 0] _
                have zB6 : B ≤ g6 := by omega
                have zr6 : r < g6 := by obtain ⟨q_, R_⟩ := HR.out; have := R_.1; omega
                have HNA : Hid (∀ b, t = some ⟨b, 0, none⟩ → b ≠ g6) := fun b e => by
                  have h_ := HA.out
                  rw [e] at h_
                  have := (h_.ltA (by omega)).2
                  omega
                replace H2 : Hid (Blk v0_7 g2 [.int .i64 0, .slice none 0 0]) := H2.out.below b_
                replace H3 : Hid (Blk v0_7 g3 [.int .i64 x, .slice t m mc]) := H3.out.below b_
                replace HS : Hid (Beside r w v0_7) := HS.out.trans (Beside.of b_)
                replace zB : B ≤ v0_7.heap.size := Nat.le_trans zB b_.size
                replace HA : Hid (OwnAlarm B v0_7 t m V) := HA.out.belowA b_
                replace HR : Hid (∃ q, Rd v0_7 r s n c q) := by obtain ⟨q_, R_⟩ := HR.out; exact ⟨q_, R_.below b_⟩
                replace HC : Hid (Sc3 B v0_7 (.slice s1 n1 c1) n1 (.slice s2 n2 c2) n2 (.slice s3 n3 c3) n3) := HC.out.below b_
                try rw [← hg6]
                clear hv_ hg6 b_
                refine hK.out _ _ (⟨H3.out.2.2 0 _ rfl, H3.out.2.2 1 _ rfl, H3.out.1⟩) (fun hHeld => ?_)
                clear hK KK
                refine wpAnyH_ready (rs := [6]) (by kernel_rfl) (by simp) ?_
                refine (AllReadyH.cons rfl (fun KK hK => ?_) AllReadyH.nil)
                obtain ⟨⟨F1, l1⟩, ⟨U2, l2⟩, U3, l3⟩ := HC.out
                have HTh : Hid (RowB v0_7 s1 n1 F1) := l1.row
                have HSe : Hid (RowI v0_7 s2 n2 U2) := l2.srcS
                have HSh : Hid (RowShelf v0_7 s3 n3 (fun i => (U3 (i * 2), U3 (i * 2 + 1)))) := l3.shelf
                have HAr : Hid (RowAlarm v0_7 t m V) := HA.out.row
                have HzW : Hid (B ≤ v0_7.heap.size) := zB
                clear l1 l2 l3 HC
                go_simp
                go_wp2_with (first | (go_at_call 30; refine (specBoardStep_any x t m mc V mo s1 n1 c1 F1 s2 n2 c2 U2 s3 n3 c3 (fun i => (U3 (i * 2), U3 (i * 2 + 1))) _ (by omega) (by omega) (by omega) (by omega) HAr HTh HSe HSh).mono ?_; rintro e v0_8 hB; obtain ⟨x6, s0, n0, c0, s7, n7, c7, ok, rfl, hok, b9⟩ := bs_any hB))
                have HOK : Hid (ok = true → n0 = m ∧ ∃ V' : Nat → Int × Int × Int × Bool × Int, OwnAlarm B v0_8 s0 n0 V') := fun z => ⟨(hok z).1, by obtain ⟨V', h_⟩ := (hok z).2; exact ⟨V', h_.lowA HzW.out⟩⟩
                have HNE : Hid (ok = true → ∀ b, s0 = some ⟨b, 0, none⟩ → b ≠ g6) := fun z b e => by
                  obtain ⟨e0, V', h_⟩ := hok z
                  rw [e] at h_
                  have h1_ := (h_.ltA (by omega)).1
                  have h2_ := H6.out.1
                  omega
                replace H2 : Hid (Blk v0_8 g2 [.int .i64 0, .slice none 0 0]) := H2.out.below b9
                replace H3 : Hid (Blk v0_8 g3 [.int .i64 x, .slice t m mc]) := H3.out.below b9
                replace HS : Hid (Beside r w v0_8) := HS.out.trans (Beside.of b9)
                replace zB : B ≤ v0_8.heap.size := Nat.le_trans zB b9.size
                replace HA : Hid (OwnAlarm B v0_8 t m V) := HA.out.belowA b9
                replace HR : Hid (∃ q, Rd v0_8 r s n c q) := by obtain ⟨q_, R_⟩ := HR.out; exact ⟨q_, R_.below b9⟩
                replace H6 : Hid (Blk v0_8 g6 [.int .i64 0, .slice none 0 0]) := H6.out.below b9
                clear b9 hB hok HTh HSe HSh HAr HzW
                refine hK.out _ _ (⟨H3.out.2.2 0 _ rfl, H3.out.2.2 1 _ rfl, H3.out.1⟩) (fun hHeld => ?_)
                clear hK KK
                refine wpAnyH_take (i := 7) (v := .tuple #[.agg #[.int .i64 x6, .slice s0 n0 c0], .slice s7 n7 c7, .bool ok]) rfl (by kernel_rfl) (by kernel_rfl) (by kernel_rfl) (fun _ _ _ h => h) (Or.inl ⟨by kernel_rfl, ?_⟩) hHeld ?_
                · intro w' hSw
                  obtain ⟨hc0, hc1, hz0⟩ := hSw
                  first | (go_simp; done) | (go_simp; with_reducible rfl) | (go_simp; rw [IntKind.wrap_i64]; omega) | (go_simp; omega)
                simp only [Act.put, List.setIfInBounds_toArray, List.set_cons_zero, List.set_cons_succ]
                refine wpAnyH_take (i := 8) (v := .agg #[.int .i64 x6, .slice s0 n0 c0]) rfl (by kernel_rfl) (by kernel_rfl) (by kernel_rfl) (fun _ _ _ h => h) (Or.inl ⟨by kernel_rfl, ?_⟩) hHeld ?_
                · intro w' hSw
                  obtain ⟨hc0, hc1, hz0⟩ := hSw
                  first | (go_simp; done) | (go_simp; with_reducible rfl) | (go_simp; rw [IntKind.wrap_i64]; omega) | (go_simp; omega)
                simp only [Act.put, List.setIfInBounds_toArray, List.set_cons_zero, List.set_cons_succ]
                refine wpAnyH_take (i := 9) (v := .slice s7 n7 c7) rfl (by kernel_rfl) (by kernel_rfl) (by kernel_rfl) (fun _ _ _ h => h) (Or.inl ⟨by kernel_rfl, ?_⟩) hHeld ?_
                · intro w' hSw
                  obtain ⟨hc0, hc1, hz0⟩ := hSw
                  first | (go_simp; done) | (go_simp; with_reducible rfl) | (go_simp; rw [IntKind.wrap_i64]; omega) | (go_simp; omega)
                simp only [Act.put, List.setIfInBounds_toArray, List.set_cons_zero, List.set_cons_succ]
                refine wpAnyH_take (i := 10) (v := .bool ok) rfl (by kernel_rfl) (by kernel_rfl) (by kernel_rfl) (fun _ _ _ h => h) (Or.inl ⟨by kernel_rfl, ?_⟩) hHeld ?_
                · intro w' hSw
                  obtain ⟨hc0, hc1, hz0⟩ := hSw
                  first | (go_simp; done) | (go_simp; with_reducible rfl) | (go_simp; rw [IntKind.wrap_i64]; omega) | (go_simp; omega)
                simp only [Act.put, List.setIfInBounds_toArray, List.set_cons_zero, List.set_cons_succ]
                refine wpAnyH_ready (rs := [12]) (by kernel_rfl) (by simp) ?_
                refine (AllReadyH.cons rfl (fun KK hK => ?_) AllReadyH.nil)
                have u0 := H6.out.2.2 0 _ rfl
                have u1 := H6.out.2.2 1 _ rfl
                have f0 := H6.out.2.1 0
                have f1 := H6.out.2.1 1
                have uz := H6.out.1
                have hst := store_slT
                go_simp
                obtain ⟨v0_9, hv_⟩ : ∃ z, z = (v0_8.setCell ⟨g6, 0, none⟩ (.int .i64 x6)).setCell ⟨g6, 1, none⟩ (.slice s0 n0 c0) := ⟨_, rfl⟩
                rw [← hv_]
                have b9 : Beside g6 v0_8 v0_9 := by rw [hv_]; exact (Beside.setCell g6 _ 0 _).trans (Beside.setCell g6 _ 1 _)
                replace H6 : Hid (Blk v0_9 g6 [.int .i64 x6, .slice s0 n0 c0]) := by show Blk _ _ _; rw [hv_]; exact (H6.out.set 0 _).set 1 _
                replace H2 : Hid (Blk v0_9 g2 [.int .i64 0, .slice none 0 0]) := H2.out.beside b9 (by omega)
                replace H3 : Hid (Blk v0_9 g3 [.int .i64 x, .slice t m mc]) := H3.out.beside b9 (by omega)
                replace HA : Hid (OwnAlarm B v0_9 t m V) := HA.out.besideN b9 HNA.out
                replace HOK : Hid (ok = true → n0 = m ∧ ∃ V' : Nat → Int × Int × Int × Bool × Int, OwnAlarm B v0_9 s0 n0 V') := fun z => ⟨(HOK.out z).1, by obtain ⟨V', h_⟩ := (HOK.out z).2; exact ⟨V', h_.besideN b9 (HNE.out z)⟩⟩
                replace HR : Hid (∃ q, Rd v0_9 r s n c q) := by obtain ⟨q_, R_⟩ := HR.out; have zr_ := R_.1; exact ⟨q_, Rd.below' R_ (b9.below (by omega) (by omega))⟩
                replace HS : Hid (Beside r w v0_9) := HS.out.onB (b9.below (by omega) HS.out.2.2.2.1)
                replace zB : B ≤ v0_9.heap.size := Nat.le_trans zB b9.2.2.2.1
                clear hv_ b9 u0 u1 f0 f1 uz hst
                refine hK.out _ _ (⟨H3.out.2.2 0 _ rfl, H3.out.2.2 1 _ rfl, H3.out.1⟩) (fun hHeld => ?_)
                clear hK KK
                refine wpAnyH_ready (rs := [13]) (by kernel_rfl) (by simp) ?_
                refine (AllReadyH.cons rfl (fun KK hK => ?_) AllReadyH.nil)
                go_simp
                refine hK.out _ _ (⟨H3.out.2.2 0 _ rfl, H3.out.2.2 1 _ rfl, H3.out.1⟩) (fun hHeld => ?_)
                clear hK KK
                refine wpAnyH_ready (rs := [14]) (by kernel_rfl) (by simp) ?_
                refine (AllReadyH.cons rfl (fun KK hK => ?_) AllReadyH.nil)
                go_simp
                refine hK.out _ _ (⟨H3.out.2.2 0 _ rfl, H3.out.2.2 1 _ rfl, H3.out.1⟩) (fun hHeld => ?_)
                clear hK KK
                refine wpAnyH_done (by kernel_rfl) ?_ _
                clear hHeld
                go_wp2_with fail
                go_meet
                exact ⟨g6, x6, s0, n0, c0, ok, rfl, rfl, H6, HOK, HR, HS, H2, H3, zB, HA⟩
            · go_simp
              obtain ⟨v0_12, hv_⟩ : ∃ z, z = v0.alloc (.cells #[.int .i64 0, .slice none 0 0] 26) := ⟨_, rfl⟩
              rw [← hv_]
              obtain ⟨g6, hg6⟩ : ∃ z, z = v0.heap.size := ⟨_, rfl⟩
              have b_ : Below v0.heap.size v0 v0_12 := by rw [hv_]; exact below0 _ _
              have H6 : Hid (Blk v0_12 g6 [.int .i64 0, .slice none 0 0]) := by show Blk _ _ _; rw [hv_, hg6]; exact Blk.new v0 #[.int .i64 0, .slice none 0 0] _
              have zB6 : B ≤ g6 := by omega
              have zr6 : r < g6 := by obtain ⟨q_, R_⟩ := HR.out; have := R_.1; omega
              have HNA : Hid (∀ b, t = some ⟨b, 0, none⟩ → b ≠ g6) := fun b e => by
                have h_ := HA.out
                rw [e] at h_
                have := (h_.ltA (by omega)).2
                omega
              replace H2 : Hid (Blk v0_12 g2 [.int .i64 0, .slice none 0 0]) := H2.out.below b_
              replace H3 : Hid (Blk v0_12 g3 [.int .i64 x, .slice t m mc]) := H3.out.below b_
              replace HS : Hid (Beside r w v0_12) := HS.out.trans (Beside.of b_)
              replace zB : B ≤ v0_12.heap.size := Nat.le_trans zB b_.size
              replace HA : Hid (OwnAlarm B v0_12 t m V) := HA.out.belowA b_
              replace HR : Hid (∃ q, Rd v0_12 r s n c q) := by obtain ⟨q_, R_⟩ := HR.out; exact ⟨q_, R_.below b_⟩
              try rw [← hg6]
              clear hv_ hg6 b_
              refine hK.out _ _ (⟨H3.out.2.2 0 _ rfl, H3.out.2.2 1 _ rfl, H3.out.1⟩) (fun hHeld => ?_)
              clear hK KK
              refine wpAnyH_ready (rs := [5]) (by kernel_rfl) (by simp) ?_
              refine (AllReadyH.cons rfl (fun KK hK => ?_) AllReadyH.nil)
              obtain ⟨q0, R0⟩ := HR.out
              have zrw := R0.1
              have HzW : Hid (B ≤ v0_12.heap.size) := zB
              go_simp
              go_wp2_with (first | (go_at_call 44; refine (scan_any m (by omega) (by omega) R0).mono ?_; rintro e v0_13 hK; unfold ScPost at hK; obtain ⟨mo, s1, n1, c1, s2, n2, c2, s3, n3, c3, p9, rfl, q1, q2, q3, hc, R9, b9⟩ := hK))
              have HC : Hid (Sc3 B v0_13 (.slice s1 n1 c1) n1 (.slice s2 n2 c2) n2 (.slice s3 n3 c3) n3) := hc.low HzW.out
              replace H2 : Hid (Blk v0_13 g2 [.int .i64 0, .slice none 0 0]) := H2.out.beside b9 (by omega)
              replace H3 : Hid (Blk v0_13 g3 [.int .i64 x, .slice t m mc]) := H3.out.beside b9 (by omega)
              replace HS : Hid (Beside r w v0_13) := HS.out.trans b9
              replace zB : B ≤ v0_13.heap.size := Nat.le_trans zB b9.2.2.2.1
              replace HA : Hid (OwnAlarm B v0_13 t m V) := HA.out.besideA b9 (by omega)
              replace H6 : Hid (Blk v0_13 g6 [.int .i64 0, .slice none 0 0]) := H6.out.beside b9 (by omega)
              replace HR : Hid (∃ q, Rd v0_13 r s n c q) := ⟨_, R9⟩
              clear R0 R9 b9 zrw HzW hc
              refine hK.out _ _ (⟨H3.out.2.2 0 _ rfl, H3.out.2.2 1 _ rfl, H3.out.1⟩) (fun hHeld => ?_)
              clear hK KK
              refine wpAnyH_ready (rs := [6]) (by kernel_rfl) (by simp) ?_
              refine (AllReadyH.cons rfl (fun KK hK => ?_) AllReadyH.nil)
              obtain ⟨⟨F1, l1⟩, ⟨U2, l2⟩, U3, l3⟩ := HC.out
              have HTh : Hid (RowB v0_13 s1 n1 F1) := l1.row
              have HSe : Hid (RowI v0_13 s2 n2 U2) := l2.srcS
              have HSh : Hid (RowShelf v0_13 s3 n3 (fun i => (U3 (i * 2), U3 (i * 2 + 1)))) := l3.shelf
              have HAr : Hid (RowAlarm v0_13 t m V) := HA.out.row
              have HzW : Hid (B ≤ v0_13.heap.size) := zB
              clear l1 l2 l3 HC
              go_simp
              go_wp2_with (first | (go_at_call 30; refine (specBoardStep_any x t m mc V mo s1 n1 c1 F1 s2 n2 c2 U2 s3 n3 c3 (fun i => (U3 (i * 2), U3 (i * 2 + 1))) _ (by omega) (by omega) (by omega) (by omega) HAr HTh HSe HSh).mono ?_; rintro e v0_14 hB; obtain ⟨x6, s0, n0, c0, s7, n7, c7, ok, rfl, hok, b9⟩ := bs_any hB))
              have HOK : Hid (ok = true → n0 = m ∧ ∃ V' : Nat → Int × Int × Int × Bool × Int, OwnAlarm B v0_14 s0 n0 V') := fun z => ⟨(hok z).1, by obtain ⟨V', h_⟩ := (hok z).2; exact ⟨V', h_.lowA HzW.out⟩⟩
              have HNE : Hid (ok = true → ∀ b, s0 = some ⟨b, 0, none⟩ → b ≠ g6) := fun z b e => by
                obtain ⟨e0, V', h_⟩ := hok z
                rw [e] at h_
                have h1_ := (h_.ltA (by omega)).1
                have h2_ := H6.out.1
                omega
              replace H2 : Hid (Blk v0_14 g2 [.int .i64 0, .slice none 0 0]) := H2.out.below b9
              replace H3 : Hid (Blk v0_14 g3 [.int .i64 x, .slice t m mc]) := H3.out.below b9
              replace HS : Hid (Beside r w v0_14) := HS.out.trans (Beside.of b9)
              replace zB : B ≤ v0_14.heap.size := Nat.le_trans zB b9.size
              replace HA : Hid (OwnAlarm B v0_14 t m V) := HA.out.belowA b9
              replace HR : Hid (∃ q, Rd v0_14 r s n c q) := by obtain ⟨q_, R_⟩ := HR.out; exact ⟨q_, R_.below b9⟩
              replace H6 : Hid (Blk v0_14 g6 [.int .i64 0, .slice none 0 0]) := H6.out.below b9
              clear b9 hB hok HTh HSe HSh HAr HzW
              refine hK.out _ _ (⟨H3.out.2.2 0 _ rfl, H3.out.2.2 1 _ rfl, H3.out.1⟩) (fun hHeld => ?_)
              clear hK KK
              refine wpAnyH_take (i := 7) (v := .tuple #[.agg #[.int .i64 x6, .slice s0 n0 c0], .slice s7 n7 c7, .bool ok]) rfl (by kernel_rfl) (by kernel_rfl) (by kernel_rfl) (fun _ _ _ h => h) (Or.inl ⟨by kernel_rfl, ?_⟩) hHeld ?_
              · intro w' hSw
                obtain ⟨hc0, hc1, hz0⟩ := hSw
                first | (go_simp; done) | (go_simp; with_reducible rfl) | (go_simp; rw [IntKind.wrap_i64]; omega) | (go_simp; omega)
              simp only [Act.put, List.setIfInBounds_toArray, List.set_cons_zero, List.set_cons_succ]
              refine wpAnyH_take (i := 8) (v := .agg #[.int .i64 x6, .slice s0 n0 c0]) rfl (by kernel_rfl) (by kernel_rfl) (by kernel_rfl) (fun _ _ _ h => h) (Or.inl ⟨by kernel_rfl, ?_⟩) hHeld ?_
              · intro w' hSw
                obtain ⟨hc0, hc1, hz0⟩ := hSw
                first | (go_simp; done) | (go_simp; with_reducible rfl) | (go_simp; rw [IntKind.wrap_i64]; omega) | (go_simp; omega)
              simp only [Act.put, List.setIfInBounds_toArray, List.set_cons_zero, List.set_cons_succ]
              refine wpAnyH_take (i := 9) (v := .slice s7 n7 c7) rfl (by kernel_rfl) (by kernel_rfl) (by kernel_rfl) (fun _ _ _ h => h) (Or.inl ⟨by kernel_rfl, ?_⟩) hHeld ?_
              · intro w' hSw
                obtain ⟨hc0, hc1, hz0⟩ := hSw
                first | (go_simp; done) | (go_simp; with_reducible rfl) | (go_simp; rw [IntKind.wrap_i64]; omega) | (go_simp; omega)
              simp only [Act.put, List.setIfInBounds_toArray, List.set_cons_zero, List.set_cons_succ]
              refine wpAnyH_take (i := 10) (v := .bool ok) rfl (by kernel_rfl) (by kernel_rfl) (by kernel_rfl) (fun _ _ _ h => h) (Or.inl ⟨by kernel_rfl, ?_⟩) hHeld ?_
              · intro w' hSw
                obtain ⟨hc0, hc1, hz0⟩ := hSw
                first | (go_simp; done) | (go_simp; with_reducible rfl) | (go_simp; rw [IntKind.wrap_i64]; omega) | (go_simp; omega)
              simp only [Act.put, List.setIfInBounds_toArray, List.set_cons_zero, List.set_cons_succ]
              refine wpAnyH_ready (rs := [12]) (by kernel_rfl) (by simp) ?_
              refine (AllReadyH.cons rfl (fun KK hK => ?_) AllReadyH.nil)
              have u0 := H6.out.2.2 0 _ rfl
              have u1 := H6.out.2.2 1 _ rfl
              have f0 := H6.out.2.1 0
              have f1 := H6.out.2.1 1
              have uz := H6.out.1
              have hst := store_slT
              go_simp
              obtain ⟨v0_15, hv_⟩ : ∃ z, z = (v0_14.setCell ⟨g6, 0, none⟩ (.int .i64 x6)).setCell ⟨g6, 1, none⟩ (.slice s0 n0 c0) := ⟨_, rfl⟩
              rw [← hv_]
              have b9 : Beside g6 v0_14 v0_15 := by rw [hv_]; exact (Beside.setCell g6 _ 0 _).trans (Beside.setCell g6 _ 1 _)
              replace H6 : Hid (Blk v0_15 g6 [.int .i64 x6, .slice s0 n0 c0]) := by show Blk _ _ _; rw [hv_]; exact (H6.out.set 0 _).set 1 _
              replace H2 : Hid (Blk v0_15 g2 [.int .i64 0, .slice none 0 0]) := H2.out.beside b9 (by omega)
              replace H3 : Hid (Blk v0_15 g3 [.int .i64 x, .slice t m mc]) := H3.out.beside b9 (by omega)
              replace HA : Hid (OwnAlarm B v0_15 t m V) := HA.out.besideN b9 HNA.out
              replace HOK : Hid (ok = true → n0 = m ∧ ∃ V' : Nat → Int × Int × Int × Bool × Int, OwnAlarm B v0_15 s0 n0 V') := fun z => ⟨(HOK.out z).1, by obtain ⟨V', h_⟩ := (HOK.out z).2; exact ⟨V', h_.besideN b9 (HNE.out z)⟩⟩
              replace HR : Hid (∃ q, Rd v0_15 r s n c q) := by obtain ⟨q_, R_⟩ := HR.out; have zr_ := R_.1; exact ⟨q_, Rd.below' R_ (b9.below (by omega) (by omega))⟩
              replace HS : Hid (Beside r w v0_15) := HS.out.onB (b9.below (by omega) HS.out.2.2.2.1)
              replace zB : B ≤ v0_15.heap.size := Nat.le_trans zB b9.2.2.2.1
              clear hv_ b9 u0 u1 f0 f1 uz hst
              refine hK.out _ _ (⟨H3.out.2.2 0 _ rfl, H3.out.2.2 1 _ rfl, H3.out.1⟩) (fun hHeld => ?_)
              clear hK KK
              refine wpAnyH_ready (rs := [13]) (by kernel_rfl) (by simp) ?_
              refine (AllReadyH.cons rfl (fun KK hK => ?_) AllReadyH.nil)
              go_simp
              refine hK.out _ _ (⟨H3.out.2.2 0 _ rfl, H3.out.2.2 1 _ rfl, H3.out.1⟩) (fun hHeld => ?_)
              clear hK KK
              refine wpAnyH_ready (rs := [14]) (by kernel_rfl) (by simp) ?_
              refine (AllReadyH.cons rfl (fun KK hK => ?_) AllReadyH.nil)
              go_simp
              refine hK.out _ _ (⟨H3.out.2.2 0 _ rfl, H3.out.2.2 1 _ rfl, H3.out.1⟩) (fun hHeld => ?_)
              clear hK KK
              refine wpAnyH_done (by kernel_rfl) ?_ _
              clear hHeld
              go_wp2_with fail
              go_meet
              exact ⟨g6, x6, s0, n0, c0, ok, rfl, rfl, H6, HOK, HR, HS, H2, H3, zB, HA⟩
          clear HR HS H2 H3 zB HA
          obtain ⟨g6, x6, s0, n0, c0, ok, rfl, rfl, H6, HOK, HR, HS, H2, H3, zB, HA⟩ := hcut
          rename World => wc
          cases ok
          case false =>
            go_wp2_with fail
            go_roundw
            case rel => exact ⟨k - 1, m, mc, t, x, V, by go_num, by omega, hm1, hm2, HR, HS, H2, H3, zB, HA⟩
            case measure => simp [intOf]; omega
          case true =>
            obtain ⟨rfl, V', hV'⟩ := HOK.out rfl
            have HA2 : Hid (OwnAlarm B wc s0 n0 V') := hV'
            clear hV' HOK HA
            have a0 := H6.out.2.2 0 _ rfl
            have a1 := H6.out.2.2 1 _ rfl
            have az := H6.out.1
            have u0 := H3.out.2.2 0 _ rfl
            have u1 := H3.out.2.2 1 _ rfl
            have f0 := H3.out.2.1 0
            have f1 := H3.out.2.1 1
            have uz := H3.out.1
            have hst := store_slT
            go_upto_region 8 with fail
            obtain ⟨wd, hv_⟩ : ∃ z, z = (wc.setCell ⟨g3, 0, none⟩ (.int .i64 x6)).setCell ⟨g3, 1, none⟩ (.slice s0 n0 c0) := ⟨_, rfl⟩
            rw [← hv_]
            have b9 : Beside g3 wc wd := by rw [hv_]; exact (Beside.setCell g3 _ 0 _).trans (Beside.setCell g3 _ 1 _)
            have H3x : Hid (Blk wd g3 [.int .i64 x6, .slice s0 n0 c0]) := by show Blk _ _ _; rw [hv_]; exact (H3.out.set 0 _).set 1 _
            replace H2 : Hid (Blk wd g2 [.int .i64 0, .slice none 0 0]) := H2.out.beside b9 (by omega)
            replace HA2 : Hid (OwnAlarm B wd s0 n0 V') := HA2.out.besideA b9 (by omega)
            replace HR : Hid (∃ q, Rd wd r s n c q) := by obtain ⟨q_, R_⟩ := HR.out; have zr_ := R_.1; exact ⟨q_, Rd.below' R_ (b9.below (by omega) (by omega))⟩
            replace HS : Hid (Beside r w wd) := HS.out.onB (b9.below (by omega) HS.out.2.2.2.1)
            replace zB : B ≤ wd.heap.size := Nat.le_trans zB b9.2.2.2.1
            clear hv_ b9 u0 u1 f0 f1 uz hst a0 a1 az H6 H3
            go_wp2_with fail
            go_roundw
            case rel => exact ⟨k - 1, n0, c0, s0, x6, V', by go_num, by omega, hm1, hm2, HR, HS, H2, H3x, zB, HA2⟩
            case measure => simp [intOf]; omega
        case neg =>
          obtain rfl : k = 0 := by omega
          have hk0 : ¬ (0 : Int) < ((0 : Nat) : Int) := by omega
          have d1 := H3.out.2.2 1 _ rfl
          have dz := H3.out.1
          obtain ⟨q0, R0⟩ := HR.out
          go_wp2_with fail
          refine (below_any _ R0).mono ?_
          rintro e w5 ⟨ii, p9, rfl, k0_, k6_, km_, R9, b9⟩
          replace H2 : Hid (Blk w5 g2 [.int .i64 0, .slice none 0 0]) := H2.out.beside b9 (by omega)
          replace H3 : Hid (Blk w5 g3 [.int .i64 x, .slice t m mc]) := H3.out.beside b9 (by omega)
          replace HS : Hid (Beside r w w5) := HS.out.trans b9
          replace zB : B ≤ w5.heap.size := Nat.le_trans zB b9.2.2.2.1
          replace HA : Hid (OwnAlarm B w5 t m V) := HA.out.besideA b9 (by omega)
          replace HR : Hid (∃ q, Rd w5 r s n c q) := ⟨_, R9⟩
          clear R0 R9 b9 d1 dz hk0
          obtain ⟨i, rfl⟩ : ∃ i : Nat, ii = (i : Int) := ⟨ii.toNat, by omega⟩
          have him : i < m := by omega
          clear k0_ k6_ km_
          obtain ⟨q0, R0⟩ := HR.out
          go_wp2_with fail
          refine (below_any 40 R0).mono ?_
          rintro e w6 ⟨kk, p9, rfl, k0_, k6_, km_, R9, b9⟩
          replace H2 : Hid (Blk w6 g2 [.int .i64 0, .slice none 0 0]) := H2.out.beside b9 (by omega)
          replace H3 : Hid (Blk w6 g3 [.int .i64 x, .slice t m mc]) := H3.out.beside b9 (by omega)
          replace HS : Hid (Beside r w w6) := HS.out.trans b9
          replace zB : B ≤ w6.heap.size := Nat.le_trans zB b9.2.2.2.1
          replace HA : Hid (OwnAlarm B w6 t m V) := HA.out.besideA b9 (by omega)
          replace HR : Hid (∃ q, Rd w6 r s n c q) := ⟨_, R9⟩
          clear R0 R9 b9 k0_ k6_ km_
          obtain ⟨lb, rfl⟩ : ∃ lb, t = some ⟨lb, 0, none⟩ := by obtain ⟨g_, e_, _⟩ := HA.out 0 (by omega); exact ⟨g_, e_⟩
          obtain ⟨zlB, zlb⟩ := HA.out.ltA (by omega)
          by_cases e0 : kk = 0
          case pos =>
            subst e0
            go_upto_region 15 with fail
            refine wp_region_held_drew (S := fun w' => w'.cell? ⟨g3, 1, none⟩ = some (.slice (some ⟨lb, 0, none⟩) m mc) ∧ g3 < w'.heap.size) (by kernel_rfl) ?_ (fun hHeld => ?_)
            · exact ⟨H3.out.2.2 1 _ rfl, H3.out.1⟩
            obtain ⟨v0, hv0⟩ : ∃ z, z = w6.drew := ⟨_, rfl⟩
            try rw [← hv0] at hHeld
            rw [← hv0]
            have bv0 : Below w6.heap.size w6 v0 := by rw [hv0]; exact Below.drew (Below.refl _ _)
            clear hv0
            replace H2 : Hid (Blk v0 g2 [.int .i64 0, .slice none 0 0]) := H2.out.below bv0
            replace H3 : Hid (Blk v0 g3 [.int .i64 x, .slice (some ⟨lb, 0, none⟩) m mc]) := H3.out.below bv0
            replace HS : Hid (Beside r w v0) := HS.out.trans (Beside.of bv0)
            replace zB : B ≤ v0.heap.size := Nat.le_trans zB bv0.size
            replace HA : Hid (OwnAlarm B v0 (some ⟨lb, 0, none⟩) m V) := HA.out.belowA bv0
            replace HR : Hid (∃ q, Rd v0 r s n c q) := by obtain ⟨q_, R_⟩ := HR.out; exact ⟨q_, R_.below bv0⟩
            clear bv0
            refine wpAnyH_take (i := 0) (v := .pointer (some ⟨g3, 1, none⟩)) rfl (by kernel_rfl) (by kernel_rfl) (by kernel_rfl) (fun _ _ _ h => h) (Or.inl ⟨by kernel_rfl, ?_⟩) hHeld ?_
            · intro w' hSw
              obtain ⟨hc0, hz0⟩ := hSw
              first | (go_simp; done) | (go_simp; with_reducible rfl) | (go_simp; rw [IntKind.wrap_i64]; omega) | (go_simp; omega)
            simp only [Act.put, List.setIfInBounds_toArray, List.set_cons_zero, List.set_cons_succ]
            refine wpAnyH_take (i := 1) (v := .slice (some ⟨lb, 0, none⟩) m mc) rfl (by kernel_rfl) (by kernel_rfl) (by kernel_rfl) (fun _ _ _ h => h) (Or.inl ⟨by kernel_rfl, ?_⟩) hHeld ?_
            · intro w' hSw
              obtain ⟨hc0, hz0⟩ := hSw
              first | (go_simp; done) | (go_simp; with_reducible rfl) | (go_simp; rw [IntKind.wrap_i64]; omega) | (go_simp; omega)
            simp only [Act.put, List.setIfInBounds_toArray, List.set_cons_zero, List.set_cons_succ]
            refine wpAnyH_take (i := 2) (v := .int .i64 (i : Int)) rfl (by kernel_rfl) (by kernel_rfl) (by kernel_rfl) (fun _ _ _ h => h) (Or.inl ⟨by kernel_rfl, ?_⟩) hHeld ?_
            · intro w' hSw
              obtain ⟨hc0, hz0⟩ := hSw
              first | (go_simp; done) | (go_simp; with_reducible rfl) | (go_simp; rw [IntKind.wrap_i64]; omega) | (go_simp; omega)
            simp only [Act.put, List.setIfInBounds_toArray, List.set_cons_zero, List.set_cons_succ]
            refine wpAnyH_take (i := 3) (v := .pointer (some ⟨r, 0, none⟩)) rfl (by kernel_rfl) (by kernel_rfl) (by kernel_rfl) (fun _ _ _ h => h) (Or.inl ⟨by kernel_rfl, ?_⟩) hHeld ?_
            · intro w' hSw
              obtain ⟨hc0, hz0⟩ := hSw
              first | (go_simp; done) | (go_simp; with_reducible rfl) | (go_simp; rw [IntKind.wrap_i64]; omega) | (go_simp; omega)
            simp only [Act.put, List.setIfInBounds_toArray, List.set_cons_zero, List.set_cons_succ]
            refine wpAnyH_ready (rs := [4]) (by kernel_rfl) (by simp) ?_
            refine (AllReadyH.cons rfl (fun KK hK => ?_) AllReadyH.nil)
            obtain ⟨q0, R0⟩ := HR.out
            go_simp
            go_wp2_with (first | (go_at_call 74; refine (off_all 0 3 R0).mono ?_; rintro e v0_1 ⟨x9, p9, rfl, R9, b9⟩))
            replace H2 : Hid (Blk v0_1 g2 [.int .i64 0, .slice none 0 0]) := H2.out.beside b9 (by omega)
            replace H3 : Hid (Blk v0_1 g3 [.int .i64 x, .slice (some ⟨lb, 0, none⟩) m mc]) := H3.out.beside b9 (by omega)
            replace HS : Hid (Beside r w v0_1) := HS.out.trans b9
            replace zB : B ≤ v0_1.heap.size := Nat.le_trans zB b9.2.2.2.1
            replace HA : Hid (OwnAlarm B v0_1 (some ⟨lb, 0, none⟩) m V) := HA.out.besideA b9 (by omega)
            replace HR : Hid (∃ q, Rd v0_1 r s n c q) := ⟨_, R9⟩
            clear R0 R9 b9
            refine hK.out _ _ (⟨H3.out.2.2 1 _ rfl, H3.out.1⟩) (fun hHeld => ?_)
            clear hK KK
            refine wpAnyH_take (i := 5) (v := .pointer (some ⟨lb, i * 5, none⟩)) rfl (by kernel_rfl) (by kernel_rfl) (by kernel_rfl) (fun _ _ _ h => h) (Or.inl ⟨by kernel_rfl, ?_⟩) hHeld ?_
            · intro w' hSw
              obtain ⟨hc0, hz0⟩ := hSw
              first | (go_simp; done) | (go_simp; with_reducible rfl) | (go_simp; rw [IntKind.wrap_i64]; omega) | (go_simp; omega)
            simp only [Act.put, List.setIfInBounds_toArray, List.set_cons_zero, List.set_cons_succ]
            refine wpAnyH_take (i := 6) (v := .pointer (some ⟨lb, i * 5 + 2, none⟩)) rfl (by kernel_rfl) (by kernel_rfl) (by kernel_rfl) (fun _ _ _ h => h) (Or.inl ⟨by kernel_rfl, ?_⟩) hHeld ?_
            · intro w' hSw
              obtain ⟨hc0, hz0⟩ := hSw
              first | (go_simp; done) | (go_simp; with_reducible rfl) | (go_simp; rw [IntKind.wrap_i64]; omega) | (go_simp; omega)
            simp only [Act.put, List.setIfInBounds_toArray, List.set_cons_zero, List.set_cons_succ]
            refine wpAnyH_ready (rs := [7]) (by kernel_rfl) (by simp) ?_
            refine (AllReadyH.cons rfl (fun KK hK => ?_) AllReadyH.nil)
            obtain ⟨g_, e_, h1_, h2_, h3_, c0_, c1_, c2_, c3_, c4_⟩ := HA.out i him
            cases e_
            have f_ := h3_ (i * 5 + 2)
            clear h3_ h1_
            have hst := store_slT
            go_simp
            obtain ⟨v0_2, hv_⟩ : ∃ z, z = v0_1.setCell ⟨lb, i * 5 + 2, none⟩ (.int .i64 x9) := ⟨_, rfl⟩
            rw [← hv_]
            obtain ⟨V2, hV2⟩ := HA.out.set2 him x9
            have b9 : Beside lb v0_1 v0_2 := by rw [hv_]; exact Beside.setCell lb _ _ _
            replace HA : Hid (OwnAlarm B v0_2 (some ⟨lb, 0, none⟩) m V2) := by show OwnAlarm _ _ _ _ _; rw [hv_]; exact hV2
            replace H2 : Hid (Blk v0_2 g2 [.int .i64 0, .slice none 0 0]) := H2.out.beside b9 (by omega)
            replace H3 : Hid (Blk v0_2 g3 [.int .i64 x, .slice (some ⟨lb, 0, none⟩) m mc]) := H3.out.beside b9 (by omega)
            replace HR : Hid (∃ q, Rd v0_2 r s n c q) := by obtain ⟨q_, R_⟩ := HR.out; have zr_ := R_.1; exact ⟨q_, Rd.below' R_ (b9.below (by omega) (by omega))⟩
            replace HS : Hid (Beside r w v0_2) := HS.out.onB (b9.below (by omega) HS.out.2.2.2.1)
            replace zB : B ≤ v0_2.heap.size := Nat.le_trans zB b9.2.2.2.1
            clear hv_ b9 hV2
            clear h2_ c0_ c1_ c2_ c3_ c4_ f_ hst
            refine hK.out _ _ (⟨H3.out.2.2 1 _ rfl, H3.out.1⟩) (fun hHeld => ?_)
            clear hK KK
            refine wpAnyH_done (by kernel_rfl) ?_ _
            clear hHeld
            have u0 := H3.out.2.2 0 _ rfl
            have u1 := H3.out.2.2 1 _ rfl
            have uz := H3.out.1
            have t0 := H2.out.2.2 0 _ rfl
            have t1 := H2.out.2.2 1 _ rfl
            have f0 := H2.out.2.1 0
            have f1 := H2.out.2.1 1
            have tz := H2.out.1
            have hst := store_slT
            have n23 : g2 ≠ g3 := by omega
            obtain ⟨qz, Rz⟩ := HR.out
            have zrz := Rz.1
            have hrow : ∀ W2, Beside g2 v0_2 W2 → ∃ q, Rd W2 r s n c q ∧ Beside r w W2 ∧ OwnAlarm w.heap.size W2 (some ⟨lb, 0, none⟩) m V2 := fun W2 hb => ⟨qz, Rd.below' Rz (hb.below (by omega) (by omega)), HS.out.onB (hb.below (by omega) HS.out.2.2.2.1), (HA.out.besideA hb (by omega)).lowA (by omega)⟩
            go_wp2
            refine bodyPost_ret (v := .agg #[.int .i64 x, .slice (some ⟨lb, 0, none⟩) m mc]) (by simp [results, Try.results42, go_sem, u0, u1, t0, t1, n23, n23.symm]) rfl ?_
            obtain ⟨q9, e1, e2, e3⟩ := hrow _ ((Beside.setCell g2 _ 0 _).trans (Beside.setCell g2 _ 1 _))
            exact ⟨x, (some ⟨lb, 0, none⟩), m, mc, V2, q9, rfl, hm1, by omega, e3, e1, e2⟩
          case neg =>
            have f0_ : (kk == 0) = false := beq_false_of_ne e0
            by_cases e1 : kk = 1
            case pos =>
              subst e1
              clear f0_ e0
              obtain ⟨g_, e_, h1_, h2_, h3_, c0_, c1_, c2_, c3_, c4_⟩ := HA.out i him
              cases e_
              have f_ := h3_ (i * 5 + 3)
              clear h3_ h1_
              have hst := store_slT
              have d1 := H3.out.2.2 1 _ rfl
              have dz := H3.out.1
              have imi : (i : Int) < (m : Int) := by omega
              go_upto_region 24 with fail
              obtain ⟨w7, hv_⟩ : ∃ z, z = w6.setCell ⟨lb, i * 5 + 3, none⟩ (.bool true) := ⟨_, rfl⟩
              rw [← hv_]
              obtain ⟨V2, hV2⟩ := HA.out.set3 him true
              have b9 : Beside lb w6 w7 := by rw [hv_]; exact Beside.setCell lb _ _ _
              replace HA : Hid (OwnAlarm B w7 (some ⟨lb, 0, none⟩) m V2) := by show OwnAlarm _ _ _ _ _; rw [hv_]; exact hV2
              replace H2 : Hid (Blk w7 g2 [.int .i64 0, .slice none 0 0]) := H2.out.beside b9 (by omega)
              replace H3 : Hid (Blk w7 g3 [.int .i64 x, .slice (some ⟨lb, 0, none⟩) m mc]) := H3.out.beside b9 (by omega)
              replace HR : Hid (∃ q, Rd w7 r s n c q) := by obtain ⟨q_, R_⟩ := HR.out; have zr_ := R_.1; exact ⟨q_, Rd.below' R_ (b9.below (by omega) (by omega))⟩
              replace HS : Hid (Beside r w w7) := HS.out.onB (b9.below (by omega) HS.out.2.2.2.1)
              replace zB : B ≤ w7.heap.size := Nat.le_trans zB b9.2.2.2.1
              clear hv_ b9 hV2
              clear h2_ c0_ c1_ c2_ c3_ c4_ f_ hst d1 dz
              have u0 := H3.out.2.2 0 _ rfl
              have u1 := H3.out.2.2 1 _ rfl
              have uz := H3.out.1
              have t0 := H2.out.2.2 0 _ rfl
              have t1 := H2.out.2.2 1 _ rfl
              have f0 := H2.out.2.1 0
              have f1 := H2.out.2.1 1
              have tz := H2.out.1
              have hst := store_slT
              have n23 : g2 ≠ g3 := by omega
              obtain ⟨qz, Rz⟩ := HR.out
              have zrz := Rz.1
              have hrow : ∀ W2, Beside g2 w7 W2 → ∃ q, Rd W2 r s n c q ∧ Beside r w W2 ∧ OwnAlarm w.heap.size W2 (some ⟨lb, 0, none⟩) m V2 := fun W2 hb => ⟨qz, Rd.below' Rz (hb.below (by omega) (by omega)), HS.out.onB (hb.below (by omega) HS.out.2.2.2.1), (HA.out.besideA hb (by omega)).lowA (by omega)⟩
              go_wp2
              refine bodyPost_ret (v := .agg #[.int .i64 x, .slice (some ⟨lb, 0, none⟩) m mc]) (by simp [results, Try.results42, go_sem, u0, u1, t0, t1, n23, n23.symm]) rfl ?_
              obtain ⟨q9, e1, e2, e3⟩ := hrow _ ((Beside.setCell g2 _ 0 _).trans (Beside.setCell g2 _ 1 _))
              exact ⟨x, (some ⟨lb, 0, none⟩), m, mc, V2, q9, rfl, hm1, by omega, e3, e1, e2⟩
            case neg =>
              have f1_ : (kk == 1) = false := beq_false_of_ne e1
              by_cases e2 : kk = 2
              case pos =>
                subst e2
                clear f0_ f1_ e0 e1
                go_upto_region 19 with fail
                refine wp_region_held_drew (S := fun w' => w'.cell? ⟨g3, 1, none⟩ = some (.slice (some ⟨lb, 0, none⟩) m mc) ∧ g3 < w'.heap.size) (by kernel_rfl) ?_ (fun hHeld => ?_)
                · exact ⟨H3.out.2.2 1 _ rfl, H3.out.1⟩
                obtain ⟨v0, hv0⟩ : ∃ z, z = w6.drew := ⟨_, rfl⟩
                try rw [← hv0] at hHeld
                rw [← hv0]
                have bv0 : Below w6.heap.size w6 v0 := by rw [hv0]; exact Below.drew (Below.refl _ _)
                clear hv0
                replace H2 : Hid (Blk v0 g2 [.int .i64 0, .slice none 0 0]) := H2.out.below bv0
                replace H3 : Hid (Blk v0 g3 [.int .i64 x, .slice (some ⟨lb, 0, none⟩) m mc]) := H3.out.below bv0
                replace HS : Hid (Beside r w v0) := HS.out.trans (Beside.of bv0)
                replace zB : B ≤ v0.heap.size := Nat.le_trans zB bv0.size
                replace HA : Hid (OwnAlarm B v0 (some ⟨lb, 0, none⟩) m V) := HA.out.belowA bv0
                replace HR : Hid (∃ q, Rd v0 r s n c q) := by obtain ⟨q_, R_⟩ := HR.out; exact ⟨q_, R_.below bv0⟩
                clear bv0
                refine wpAnyH_take (i := 0) (v := .pointer (some ⟨g3, 1, none⟩)) rfl (by kernel_rfl) (by kernel_rfl) (by kernel_rfl) (fun _ _ _ h => h) (Or.inl ⟨by kernel_rfl, ?_⟩) hHeld ?_
                · intro w' hSw
                  obtain ⟨hc0, hz0⟩ := hSw
                  first | (go_simp; done) | (go_simp; with_reducible rfl) | (go_simp; rw [IntKind.wrap_i64]; omega) | (go_simp; omega)
                simp only [Act.put, List.setIfInBounds_toArray, List.set_cons_zero, List.set_cons_succ]
                refine wpAnyH_take (i := 1) (v := .slice (some ⟨lb, 0, none⟩) m mc) rfl (by kernel_rfl) (by kernel_rfl) (by kernel_rfl) (fun _ _ _ h => h) (Or.inl ⟨by kernel_rfl, ?_⟩) hHeld ?_
                · intro w' hSw
                  obtain ⟨hc0, hz0⟩ := hSw
                  first | (go_simp; done) | (go_simp; with_reducible rfl) | (go_simp; rw [IntKind.wrap_i64]; omega) | (go_simp; omega)
                simp only [Act.put, List.setIfInBounds_toArray, List.set_cons_zero, List.set_cons_succ]
                refine wpAnyH_take (i := 2) (v := .int .i64 (i : Int)) rfl (by kernel_rfl) (by kernel_rfl) (by kernel_rfl) (fun _ _ _ h => h) (Or.inl ⟨by kernel_rfl, ?_⟩) hHeld ?_
                · intro w' hSw
                  obtain ⟨hc0, hz0⟩ := hSw
                  first | (go_simp; done) | (go_simp; with_reducible rfl) | (go_simp; rw [IntKind.wrap_i64]; omega) | (go_simp; omega)
                simp only [Act.put, List.setIfInBounds_toArray, List.set_cons_zero, List.set_cons_succ]
                refine wpAnyH_take (i := 3) (v := .pointer (some ⟨r, 0, none⟩)) rfl (by kernel_rfl) (by kernel_rfl) (by kernel_rfl) (fun _ _ _ h => h) (Or.inl ⟨by kernel_rfl, ?_⟩) hHeld ?_
                · intro w' hSw
                  obtain ⟨hc0, hz0⟩ := hSw
                  first | (go_simp; done) | (go_simp; with_reducible rfl) | (go_simp; rw [IntKind.wrap_i64]; omega) | (go_simp; omega)
                simp only [Act.put, List.setIfInBounds_toArray, List.set_cons_zero, List.set_cons_succ]
                refine wpAnyH_ready (rs := [4]) (by kernel_rfl) (by simp) ?_
                refine (AllReadyH.cons rfl (fun KK hK => ?_) AllReadyH.nil)
                obtain ⟨q0, R0⟩ := HR.out
                go_simp
                go_wp2_with (first | (go_at_call 74; refine (off_all 1 9 R0).mono ?_; rintro e v0_1 ⟨x9, p9, rfl, R9, b9⟩))
                replace H2 : Hid (Blk v0_1 g2 [.int .i64 0, .slice none 0 0]) := H2.out.beside b9 (by omega)
                replace H3 : Hid (Blk v0_1 g3 [.int .i64 x, .slice (some ⟨lb, 0, none⟩) m mc]) := H3.out.beside b9 (by omega)
                replace HS : Hid (Beside r w v0_1) := HS.out.trans b9
                replace zB : B ≤ v0_1.heap.size := Nat.le_trans zB b9.2.2.2.1
                replace HA : Hid (OwnAlarm B v0_1 (some ⟨lb, 0, none⟩) m V) := HA.out.besideA b9 (by omega)
                replace HR : Hid (∃ q, Rd v0_1 r s n c q) := ⟨_, R9⟩
                clear R0 R9 b9
                refine hK.out _ _ (⟨H3.out.2.2 1 _ rfl, H3.out.1⟩) (fun hHeld => ?_)
                clear hK KK
                refine wpAnyH_take (i := 5) (v := .pointer (some ⟨lb, i * 5, none⟩)) rfl (by kernel_rfl) (by kernel_rfl) (by kernel_rfl) (fun _ _ _ h => h) (Or.inl ⟨by kernel_rfl, ?_⟩) hHeld ?_
                · intro w' hSw
                  obtain ⟨hc0, hz0⟩ := hSw
                  first | (go_simp; done) | (go_simp; with_reducible rfl) | (go_simp; rw [IntKind.wrap_i64]; omega) | (go_simp; omega)
                simp only [Act.put, List.setIfInBounds_toArray, List.set_cons_zero, List.set_cons_succ]
                refine wpAnyH_take (i := 6) (v := .pointer (some ⟨lb, i * 5, none⟩)) rfl (by kernel_rfl) (by kernel_rfl) (by kernel_rfl) (fun _ _ _ h => h) (Or.inl ⟨by kernel_rfl, ?_⟩) hHeld ?_
                · intro w' hSw
                  obtain ⟨hc0, hz0⟩ := hSw
                  first | (go_simp; done) | (go_simp; with_reducible rfl) | (go_simp; rw [IntKind.wrap_i64]; omega) | (go_simp; omega)
                simp only [Act.put, List.setIfInBounds_toArray, List.set_cons_zero, List.set_cons_succ]
                refine wpAnyH_ready (rs := [7]) (by kernel_rfl) (by simp) ?_
                refine (AllReadyH.cons rfl (fun KK hK => ?_) AllReadyH.nil)
                obtain ⟨g_, e_, h1_, h2_, h3_, c0_, c1_, c2_, c3_, c4_⟩ := HA.out i him
                cases e_
                have f_ := h3_ (i * 5)
                clear h3_ h1_
                have hst := store_slT
                go_simp
                obtain ⟨v0_2, hv_⟩ : ∃ z, z = v0_1.setCell ⟨lb, i * 5, none⟩ (.int .i64 x9) := ⟨_, rfl⟩
                rw [← hv_]
                obtain ⟨V2, hV2⟩ := HA.out.set0 him x9
                have b9 : Beside lb v0_1 v0_2 := by rw [hv_]; exact Beside.setCell lb _ _ _
                replace HA : Hid (OwnAlarm B v0_2 (some ⟨lb, 0, none⟩) m V2) := by show OwnAlarm _ _ _ _ _; rw [hv_]; exact hV2
                replace H2 : Hid (Blk v0_2 g2 [.int .i64 0, .slice none 0 0]) := H2.out.beside b9 (by omega)
                replace H3 : Hid (Blk v0_2 g3 [.int .i64 x, .slice (some ⟨lb, 0, none⟩) m mc]) := H3.out.beside b9 (by omega)
                replace HR : Hid (∃ q, Rd v0_2 r s n c q) := by obtain ⟨q_, R_⟩ := HR.out; have zr_ := R_.1; exact ⟨q_, Rd.below' R_ (b9.below (by omega) (by omega))⟩
                replace HS : Hid (Beside r w v0_2) := HS.out.onB (b9.below (by omega) HS.out.2.2.2.1)
                replace zB : B ≤ v0_2.heap.size := Nat.le_trans zB b9.2.2.2.1
                clear hv_ b9 hV2
                clear h2_ c0_ c1_ c2_ c3_ c4_ f_ hst
                refine hK.out _ _ (⟨H3.out.2.2 1 _ rfl, H3.out.1⟩) (fun hHeld => ?_)
                clear hK KK
                refine wpAnyH_done (by kernel_rfl) ?_ _
                clear hHeld
                have u0 := H3.out.2.2 0 _ rfl
                have u1 := H3.out.2.2 1 _ rfl
                have uz := H3.out.1
                have t0 := H2.out.2.2 0 _ rfl
                have t1 := H2.out.2.2 1 _ rfl
                have f0 := H2.out.2.1 0
                have f1 := H2.out.2.1 1
                have tz := H2.out.1
                have hst := store_slT
                have n23 : g2 ≠ g3 := by omega
                obtain ⟨qz, Rz⟩ := HR.out
                have zrz := Rz.1
                have hrow : ∀ W2, Beside g2 v0_2 W2 → ∃ q, Rd W2 r s n c q ∧ Beside r w W2 ∧ OwnAlarm w.heap.size W2 (some ⟨lb, 0, none⟩) m V2 := fun W2 hb => ⟨qz, Rd.below' Rz (hb.below (by omega) (by omega)), HS.out.onB (hb.below (by omega) HS.out.2.2.2.1), (HA.out.besideA hb (by omega)).lowA (by omega)⟩
                go_wp2
                refine bodyPost_ret (v := .agg #[.int .i64 x, .slice (some ⟨lb, 0, none⟩) m mc]) (by simp [results, Try.results42, go_sem, u0, u1, t0, t1, n23, n23.symm]) rfl ?_
                obtain ⟨q9, e1, e2, e3⟩ := hrow _ ((Beside.setCell g2 _ 0 _).trans (Beside.setCell g2 _ 1 _))
                exact ⟨x, (some ⟨lb, 0, none⟩), m, mc, V2, q9, rfl, hm1, by omega, e3, e1, e2⟩
              case neg =>
                have f2_ : (kk == 2) = false := beq_false_of_ne e2
                by_cases e3 : kk = 3
                case pos =>
                  subst e3
                  clear f0_ f1_ f2_ e0 e1 e2
                  obtain ⟨q0, R0⟩ := HR.out
                  go_wp2_with fail
                  refine (below_any 2 R0).mono ?_
                  rintro e w7 ⟨y7, p9, rfl, k0_, k6_, km_, R9, b9⟩
                  replace H2 : Hid (Blk w7 g2 [.int .i64 0, .slice none 0 0]) := H2.out.beside b9 (by omega)
                  replace H3 : Hid (Blk w7 g3 [.int .i64 x, .slice (some ⟨lb, 0, none⟩) m mc]) := H3.out.beside b9 (by omega)
                  replace HS : Hid (Beside r w w7) := HS.out.trans b9
                  replace zB : B ≤ w7.heap.size := Nat.le_trans zB b9.2.2.2.1
                  replace HA : Hid (OwnAlarm B w7 (some ⟨lb, 0, none⟩) m V) := HA.out.besideA b9 (by omega)
                  replace HR : Hid (∃ q, Rd w7 r s n c q) := ⟨_, R9⟩
                  clear R0 R9 b9
                  have wq : IntKind.i64.wrap (1000000000 - y7) = 1000000000 - y7 := by rw [IntKind.wrap_i64]; omega
                  clear k0_ k6_ km_
                  have u0 := H3.out.2.2 0 _ rfl
                  have f0 := H3.out.2.1 0
                  have uz := H3.out.1
                  have hst := store_slT
                  go_upto_region 24 with fail
                  obtain ⟨w8, hv_⟩ : ∃ z, z = w7.setCell ⟨g3, 0, none⟩ (.int .i64 (1000000000 - y7)) := ⟨_, rfl⟩
                  rw [← hv_]
                  have b9 : Beside g3 w7 w8 := by rw [hv_]; exact Beside.setCell g3 _ 0 _
                  replace H3 : Hid (Blk w8 g3 [.int .i64 (1000000000 - y7), .slice (some ⟨lb, 0, none⟩) m mc]) := by show Blk _ _ _; rw [hv_]; exact H3.out.set 0 _
                  replace H2 : Hid (Blk w8 g2 [.int .i64 0, .slice none 0 0]) := H2.out.beside b9 (by omega)
                  replace HA : Hid (OwnAlarm B w8 (some ⟨lb, 0, none⟩) m V) := HA.out.besideA b9 (by omega)
                  replace HR : Hid (∃ q, Rd w8 r s n c q) := by obtain ⟨q_, R_⟩ := HR.out; have zr_ := R_.1; exact ⟨q_, Rd.below' R_ (b9.below (by omega) (by omega))⟩
                  replace HS : Hid (Beside r w w8) := HS.out.onB (b9.below (by omega) HS.out.2.2.2.1)
                  replace zB : B ≤ w8.heap.size := Nat.le_trans zB b9.2.2.2.1
                  clear hv_ b9
                  clear u0 f0 uz hst wq
                  have u0 := H3.out.2.2 0 _ rfl
                  have u1 := H3.out.2.2 1 _ rfl
                  have uz := H3.out.1
                  have t0 := H2.out.2.2 0 _ rfl
                  have t1 := H2.out.2.2 1 _ rfl
                  have f0 := H2.out.2.1 0
                  have f1 := H2.out.2.1 1
                  have tz := H2.out.1
                  have hst := store_slT
                  have n23 : g2 ≠ g3 := by omega
                  obtain ⟨qz, Rz⟩ := HR.out
                  have zrz := Rz.1
                  have hrow : ∀ W2, Beside g2 w8 W2 → ∃ q, Rd W2 r s n c q ∧ Beside r w W2 ∧ OwnAlarm w.heap.size W2 (some ⟨lb, 0, none⟩) m V := fun W2 hb => ⟨qz, Rd.below' Rz (hb.below (by omega) (by omega)), HS.out.onB (hb.below (by omega) HS.out.2.2.2.1), (HA.out.besideA hb (by omega)).lowA (by omega)⟩
                  go_wp2
                  refine bodyPost_ret (v := .agg #[.int .i64 (1000000000 - y7), .slice (some ⟨lb, 0, none⟩) m mc]) (by simp [results, Try.results42, go_sem, u0, u1, t0, t1, n23, n23.symm]) rfl ?_
                  obtain ⟨q9, e1, e2, e3⟩ := hrow _ ((Beside.setCell g2 _ 0 _).trans (Beside.setCell g2 _ 1 _))
                  exact ⟨(1000000000 - y7), (some ⟨lb, 0, none⟩), m, mc, V, q9, rfl, hm1, by omega, e3, e1, e2⟩
                case neg =>
                  have f3_ : (kk == 3) = false := beq_false_of_ne e3
                  by_cases e4 : kk = 4
                  case pos =>
                    subst e4
                    clear f0_ f1_ f2_ f3_ e0 e1 e2 e3
                    go_upto_region 23 with fail
                    refine wp_region_held_drew (S := fun w' => w'.cell? ⟨g3, 1, none⟩ = some (.slice (some ⟨lb, 0, none⟩) m mc) ∧ g3 < w'.heap.size) (by kernel_rfl) ?_ (fun hHeld => ?_)
                    · exact ⟨H3.out.2.2 1 _ rfl, H3.out.1⟩
                    obtain ⟨v0, hv0⟩ : ∃ z, z = w6.drew := ⟨_, rfl⟩
                    try rw [← hv0] at hHeld
                    rw [← hv0]
                    have bv0 : Below w6.heap.size w6 v0 := by rw [hv0]; exact Below.drew (Below.refl _ _)
                    clear hv0
                    replace H2 : Hid (Blk v0 g2 [.int .i64 0, .slice none 0 0]) := H2.out.below bv0
                    replace H3 : Hid (Blk v0 g3 [.int .i64 x, .slice (some ⟨lb, 0, none⟩) m mc]) := H3.out.below bv0
                    replace HS : Hid (Beside r w v0) := HS.out.trans (Beside.of bv0)
                    replace zB : B ≤ v0.heap.size := Nat.le_trans zB bv0.size
                    replace HA : Hid (OwnAlarm B v0 (some ⟨lb, 0, none⟩) m V) := HA.out.belowA bv0
                    replace HR : Hid (∃ q, Rd v0 r s n c q) := by obtain ⟨q_, R_⟩ := HR.out; exact ⟨q_, R_.below bv0⟩
                    clear bv0
                    refine wpAnyH_take (i := 0) (v := .pointer (some ⟨g3, 1, none⟩)) rfl (by kernel_rfl) (by kernel_rfl) (by kernel_rfl) (fun _ _ _ h => h) (Or.inl ⟨by kernel_rfl, ?_⟩) hHeld ?_
                    · intro w' hSw
                      obtain ⟨hc0, hz0⟩ := hSw
                      first | (go_simp; done) | (go_simp; with_reducible rfl) | (go_simp; rw [IntKind.wrap_i64]; omega) | (go_simp; omega)
                    simp only [Act.put, List.setIfInBounds_toArray, List.set_cons_zero, List.set_cons_succ]
                    refine wpAnyH_take (i := 1) (v := .slice (some ⟨lb, 0, none⟩) m mc) rfl (by kernel_rfl) (by kernel_rfl) (by kernel_rfl) (fun _ _ _ h => h) (Or.inl ⟨by kernel_rfl, ?_⟩) hHeld ?_
                    · intro w' hSw
                      obtain ⟨hc0, hz0⟩ := hSw
                      first | (go_simp; done) | (go_simp; with_reducible rfl) | (go_simp; rw [IntKind.wrap_i64]; omega) | (go_simp; omega)
                    simp only [Act.put, List.setIfInBounds_toArray, List.set_cons_zero, List.set_cons_succ]
                    refine wpAnyH_take (i := 2) (v := .int .i64 (i : Int)) rfl (by kernel_rfl) (by kernel_rfl) (by kernel_rfl) (fun _ _ _ h => h) (Or.inl ⟨by kernel_rfl, ?_⟩) hHeld ?_
                    · intro w' hSw
                      obtain ⟨hc0, hz0⟩ := hSw
                      first | (go_simp; done) | (go_simp; with_reducible rfl) | (go_simp; rw [IntKind.wrap_i64]; omega) | (go_simp; omega)
                    simp only [Act.put, List.setIfInBounds_toArray, List.set_cons_zero, List.set_cons_succ]
                    refine wpAnyH_take (i := 3) (v := .pointer (some ⟨r, 0, none⟩)) rfl (by kernel_rfl) (by kernel_rfl) (by kernel_rfl) (fun _ _ _ h => h) (Or.inl ⟨by kernel_rfl, ?_⟩) hHeld ?_
                    · intro w' hSw
                      obtain ⟨hc0, hz0⟩ := hSw
                      first | (go_simp; done) | (go_simp; with_reducible rfl) | (go_simp; rw [IntKind.wrap_i64]; omega) | (go_simp; omega)
                    simp only [Act.put, List.setIfInBounds_toArray, List.set_cons_zero, List.set_cons_succ]
                    refine wpAnyH_ready (rs := [4]) (by kernel_rfl) (by simp) ?_
                    refine (AllReadyH.cons rfl (fun KK hK => ?_) AllReadyH.nil)
                    obtain ⟨q0, R0⟩ := HR.out
                    go_simp
                    go_wp2_with (first | (go_at_call 74; refine (off_all 0 1000001000 R0).mono ?_; rintro e v0_1 ⟨x9, p9, rfl, R9, b9⟩))
                    replace H2 : Hid (Blk v0_1 g2 [.int .i64 0, .slice none 0 0]) := H2.out.beside b9 (by omega)
                    replace H3 : Hid (Blk v0_1 g3 [.int .i64 x, .slice (some ⟨lb, 0, none⟩) m mc]) := H3.out.beside b9 (by omega)
                    replace HS : Hid (Beside r w v0_1) := HS.out.trans b9
                    replace zB : B ≤ v0_1.heap.size := Nat.le_trans zB b9.2.2.2.1
                    replace HA : Hid (OwnAlarm B v0_1 (some ⟨lb, 0, none⟩) m V) := HA.out.besideA b9 (by omega)
                    replace HR : Hid (∃ q, Rd v0_1 r s n c q) := ⟨_, R9⟩
                    clear R0 R9 b9
                    refine hK.out _ _ (⟨H3.out.2.2 1 _ rfl, H3.out.1⟩) (fun hHeld => ?_)
                    clear hK KK
                    refine wpAnyH_take (i := 5) (v := .pointer (some ⟨lb, i * 5, none⟩)) rfl (by kernel_rfl) (by kernel_rfl) (by kernel_rfl) (fun _ _ _ h => h) (Or.inl ⟨by kernel_rfl, ?_⟩) hHeld ?_
                    · intro w' hSw
                      obtain ⟨hc0, hz0⟩ := hSw
                      first | (go_simp; done) | (go_simp; with_reducible rfl) | (go_simp; rw [IntKind.wrap_i64]; omega) | (go_simp; omega)
                    simp only [Act.put, List.setIfInBounds_toArray, List.set_cons_zero, List.set_cons_succ]
                    refine wpAnyH_take (i := 6) (v := .pointer (some ⟨lb, i * 5 + 4, none⟩)) rfl (by kernel_rfl) (by kernel_rfl) (by kernel_rfl) (fun _ _ _ h => h) (Or.inl ⟨by kernel_rfl, ?_⟩) hHeld ?_
                    · intro w' hSw
                      obtain ⟨hc0, hz0⟩ := hSw
                      first | (go_simp; done) | (go_simp; with_reducible rfl) | (go_simp; rw [IntKind.wrap_i64]; omega) | (go_simp; omega)
                    simp only [Act.put, List.setIfInBounds_toArray, List.set_cons_zero, List.set_cons_succ]
                    refine wpAnyH_ready (rs := [7]) (by kernel_rfl) (by simp) ?_
                    refine (AllReadyH.cons rfl (fun KK hK => ?_) AllReadyH.nil)
                    obtain ⟨g_, e_, h1_, h2_, h3_, c0_, c1_, c2_, c3_, c4_⟩ := HA.out i him
                    cases e_
                    have f_ := h3_ (i * 5 + 4)
                    clear h3_ h1_
                    have hst := store_slT
                    go_simp
                    obtain ⟨v0_2, hv_⟩ : ∃ z, z = v0_1.setCell ⟨lb, i * 5 + 4, none⟩ (.int .i64 x9) := ⟨_, rfl⟩
                    rw [← hv_]
                    obtain ⟨V2, hV2⟩ := HA.out.set4 him x9
                    have b9 : Beside lb v0_1 v0_2 := by rw [hv_]; exact Beside.setCell lb _ _ _
                    replace HA : Hid (OwnAlarm B v0_2 (some ⟨lb, 0, none⟩) m V2) := by show OwnAlarm _ _ _ _ _; rw [hv_]; exact hV2
                    replace H2 : Hid (Blk v0_2 g2 [.int .i64 0, .slice none 0 0]) := H2.out.beside b9 (by omega)
                    replace H3 : Hid (Blk v0_2 g3 [.int .i64 x, .slice (some ⟨lb, 0, none⟩) m mc]) := H3.out.beside b9 (by omega)
                    replace HR : Hid (∃ q, Rd v0_2 r s n c q) := by obtain ⟨q_, R_⟩ := HR.out; have zr_ := R_.1; exact ⟨q_, Rd.below' R_ (b9.below (by omega) (by omega))⟩
                    replace HS : Hid (Beside r w v0_2) := HS.out.onB (b9.below (by omega) HS.out.2.2.2.1)
                    replace zB : B ≤ v0_2.heap.size := Nat.le_trans zB b9.2.2.2.1
                    clear hv_ b9 hV2
                    clear h2_ c0_ c1_ c2_ c3_ c4_ f_ hst
                    refine hK.out _ _ (⟨H3.out.2.2 1 _ rfl, H3.out.1⟩) (fun hHeld => ?_)
                    clear hK KK
                    refine wpAnyH_done (by kernel_rfl) ?_ _
                    clear hHeld
                    have u0 := H3.out.2.2 0 _ rfl
                    have u1 := H3.out.2.2 1 _ rfl
                    have uz := H3.out.1
                    have t0 := H2.out.2.2 0 _ rfl
                    have t1 := H2.out.2.2 1 _ rfl
                    have f0 := H2.out.2.1 0
                    have f1 := H2.out.2.1 1
                    have tz := H2.out.1
                    have hst := store_slT
                    have n23 : g2 ≠ g3 := by omega
                    obtain ⟨qz, Rz⟩ := HR.out
                    have zrz := Rz.1
                    have hrow : ∀ W2, Beside g2 v0_2 W2 → ∃ q, Rd W2 r s n c q ∧ Beside r w W2 ∧ OwnAlarm w.heap.size W2 (some ⟨lb, 0, none⟩) m V2 := fun W2 hb => ⟨qz, Rd.below' Rz (hb.below (by omega) (by omega)), HS.out.onB (hb.below (by omega) HS.out.2.2.2.1), (HA.out.besideA hb (by omega)).lowA (by omega)⟩
                    go_wp2
                    refine bodyPost_ret (v := .agg #[.int .i64 x, .slice (some ⟨lb, 0, none⟩) m mc]) (by simp [results, Try.results42, go_sem, u0, u1, t0, t1, n23, n23.symm]) rfl ?_
                    obtain ⟨q9, e1, e2, e3⟩ := hrow _ ((Beside.setCell g2 _ 0 _).trans (Beside.setCell g2 _ 1 _))
                    exact ⟨x, (some ⟨lb, 0, none⟩), m, mc, V2, q9, rfl, hm1, by omega, e3, e1, e2⟩
                  case neg =>
                    have f4_ : (kk == 4) = false := beq_false_of_ne e4
                    have u0 := H3.out.2.2 0 _ rfl
                    have u1 := H3.out.2.2 1 _ rfl
                    have uz := H3.out.1
                    have t0 := H2.out.2.2 0 _ rfl
                    have t1 := H2.out.2.2 1 _ rfl
                    have f0 := H2.out.2.1 0
                    have f1 := H2.out.2.1 1
                    have tz := H2.out.1
                    have hst := store_slT
                    have n23 : g2 ≠ g3 := by omega
                    obtain ⟨qz, Rz⟩ := HR.out
                    have zrz := Rz.1
                    go_upto_region 24 with fail
                    have hrow : ∀ W2, Beside g2 w6 W2 → ∃ q, Rd W2 r s n c q ∧ Beside r w W2 ∧ OwnAlarm w.heap.size W2 (some ⟨lb, 0, none⟩) m V := fun W2 hb => ⟨qz, Rd.below' Rz (hb.below (by omega) (by omega)), HS.out.onB (hb.below (by omega) HS.out.2.2.2.1), (HA.out.besideA hb (by omega)).lowA (by omega)⟩
                    go_wp2
                    refine bodyPost_ret (v := .agg #[.int .i64 x, .slice (some ⟨lb, 0, none⟩) m mc]) (by simp [results, Try.results42, go_sem, u0, u1, t0, t1, n23, n23.symm]) rfl ?_
                    obtain ⟨q9, e1, e2, e3⟩ := hrow _ ((Beside.setCell g2 _ 0 _).trans (Beside.setCell g2 _ 1 _))
                    exact ⟨x, (some ⟨lb, 0, none⟩), m, mc, V, q9, rfl, hm1, by omega, e3, e1, e2⟩
end Go.Proofs.Ytlbbdifmjdpfiaa
