/-
What is proved: the draw of a permit.
-/
import Derived.Test.YtikcfpjfcpbfcaaVaDz
import Derived.Test.YtikcfpjfcpbfcaaFwToz
import Derived.Test.YtikcfpjfcpbfcaaFeDz
namespace Go.Proofs.Ytikcfpjfcpbfcaa
set_option maxRecDepth 40000
open Go.ChangeShapes Go.WideShapes Go.ChangeAt Go.RowKit
set_option linter.unusedVariables false
set_option linter.unusedSimpArgs false

def PmPost (r : Nat) (s : Option Addr) (n c : Nat) (w : World) (e : Ending) (w' : World) : Prop := ∃ (a x : Int) (t : Option Addr) (k kc : Nat) (U : Nat → Int) (p' : Nat), e = .returned (.agg #[.int .i64 a, .int .i64 x, .slice t k kc]) ∧ k ≤ 70000 ∧ Lst w.heap.size 2 1 w' (.slice t k kc) k U ∧ Rd w' r s n c p' ∧ Beside r w w'
theorem own_lstP {base : Nat} {w : World} {v : Value} {l : List Int} (h : OwL base w v l) : Lst base 2 1 w v l.length (nthI l) := by
  show World.ownsRow _ _ _ _ _ _ _
  rw [Nat.mul_one, vals_nth]
  exact h
theorem RowDuct.besP {w w' : World} {r : Nat} {s : Option Addr} {n : Nat} {V : Nat → Int × Int} (h : RowDuct w s n V) (hb : Beside r w w') (hn : ∀ g o, s = some ⟨g, o, none⟩ → g ≠ r) : RowDuct w' s n V := fun j hj => by
  obtain ⟨b, o, e, hl, c0, c1⟩ := h j hj
  have hne := hn b o e
  exact ⟨b, o, e, Nat.lt_of_lt_of_le hl hb.2.2.2.1, (hb.cell (p := ⟨b, o + j * 2, none⟩) hl hne).trans c0, (hb.cell (p := ⟨b, o + j * 2 + 1, none⟩) hl hne).trans c1⟩
theorem RowI.besPI {w w' : World} {r : Nat} {s : Option Addr} {n : Nat} {V : Nat → Int} (h : RowI w s n V) (hb : Beside r w w') (hn : ∀ g o, s = some ⟨g, o, none⟩ → g ≠ r) : RowI w' s n V := fun j hj => by
  obtain ⟨b, o, e, hl, c0⟩ := h j hj
  have hne := hn b o e
  exact ⟨b, o, e, Nat.lt_of_lt_of_le hl hb.2.2.2.1, (hb.cell (p := ⟨b, o + j, none⟩) hl hne).trans c0⟩
set_option maxRecDepth 20000 in
set_option maxHeartbeats 8000000 in
theorem permit_any {r : Nat} {s : Option Addr} {n c p : Nat} {w : World} {P : Int} {td : Option Addr} {nd kd : Nat} {ts : Option Addr} {ns ks : Nat} {D : Nat → Int × Int} {S : Nat → Int} (hn : nd ≤ 70000) (hs : ns ≤ 10) (HD0 : Hid (RowDuct w td nd D)) (HS0 : Hid (RowI w ts ns S)) (HTD : Hid (∀ g o, td = some ⟨g, o, none⟩ → g ≠ r)) (HTS : Hid (∀ g o, ts = some ⟨g, o, none⟩ → g ≠ r)) (h : Hid (Rd w r s n c p)) :
    Calls Try.prog 81 #[.pointer (some ⟨r, 0, none⟩), .agg #[.int .i64 P, .slice td nd kd, .slice ts ns ks]] w fun e w' => PmPost r s n c w e w' := by
  have zr : r < w.heap.size := h.out.1
  obtain ⟨m, hm⟩ : ∃ m, IntKind.i64.wrap (P - 1) = m := ⟨_, rfl⟩
  obtain ⟨q, hq⟩ : ∃ q, (if 1 < m then m else 1) = q := ⟨_, rfl⟩
  go_enter Try.func81, Try.ntmps81
  go_upto_region 1 with fail
  obtain ⟨wa, hwa⟩ : ∃ z, z = w.alloc (.cells #[.int .i64 P, .slice td nd kd, .slice ts ns ks] 41) := ⟨_, rfl⟩
  try rw [← hwa]
  obtain ⟨gn, hgn⟩ : ∃ z, z = w.heap.size := ⟨_, rfl⟩
  have ba : Below w.heap.size w wa := by rw [hwa]; exact below0 _ _
  have HNa : Hid (Blk wa gn [.int .i64 P, .slice td nd kd, .slice ts ns ks]) := by rw [hwa, hgn]; exact Blk.new w #[.int .i64 P, .slice td nd kd, .slice ts ns ks] _
  obtain ⟨wb, hwb⟩ : ∃ z, z = wa.alloc (.cells #[.int .i64 0, .int .i64 0, .slice none 0 0] 44) := ⟨_, rfl⟩
  try rw [← hwb]
  obtain ⟨gu, hgu⟩ : ∃ z, z = wa.heap.size := ⟨_, rfl⟩
  have bb : Below wa.heap.size wa wb := by rw [hwb]; exact below0 _ _
  have HU : Hid (Blk wb gu [.int .i64 0, .int .i64 0, .slice none 0 0]) := by rw [hwb, hgu]; exact Blk.new wa #[.int .i64 0, .int .i64 0, .slice none 0 0] _
  have HN : Hid (Blk wb gn [.int .i64 P, .slice td nd kd, .slice ts ns ks]) := HNa.out.below bb
  have HR : Hid (∃ q, Rd wb r s n c q) := ⟨p, (h.out.below ba).below bb⟩
  have HS : Hid (Beside r w wb) := (Beside.of ba).later bb
  have zgu : gn < gu := by have := HNa.out.1; omega
  have zgn : r < gn := by omega
  have zwn : w.heap.size ≤ gn := by omega
  have hq1 : w.heap.size + 1 = gu := by rw [hgu, hwa]; simp
  try rw [hq1]
  try rw [← hgu]
  try rw [← hgn]
  clear hq1
  clear hwa hwb ba bb hgu hgn HNa h
  go_cut [5] (fun v wx => ∃ (gp : Nat) (a x : Int), v = .pointer (some ⟨gp, 0, none⟩) ∧ gu < gp ∧ Hid (∃ q, Rd wx r s n c q) ∧ Hid (Beside r w wx) ∧ Hid (Blk wx gn [.int .i64 P, .slice td nd kd, .slice ts ns ks]) ∧ Hid (Blk wx gu [.int .i64 0, .int .i64 0, .slice none 0 0]) ∧ Hid (Blk wx gp [.int .i64 a, .int .i64 x, .slice none 0 0]))
  case first =>
    refine wp_region_held_drew (S := fun w' => w'.cell? ⟨gn, 0, none⟩ = some (.int .i64 P) ∧ gn < w'.heap.size) (by kernel_rfl) ?_ (fun hHeld => ?_)
    · exact ⟨HN.out.2.2 0 _ rfl, HN.out.1⟩
    obtain ⟨v0, hv0⟩ : ∃ z, z = wb.drew := ⟨_, rfl⟩
    try rw [← hv0] at hHeld
    rw [← hv0]
    have bv0 : Below wb.heap.size wb v0 := by rw [hv0]; exact Below.drew (Below.refl _ _)
    clear hv0
    replace HN : Hid (Blk v0 gn [.int .i64 P, .slice td nd kd, .slice ts ns ks]) := HN.out.below bv0
    replace HU : Hid (Blk v0 gu [.int .i64 0, .int .i64 0, .slice none 0 0]) := HU.out.below bv0
    replace HS : Hid (Beside r w v0) := HS.out.later bv0
    replace HR : Hid (∃ q, Rd v0 r s n c q) := by obtain ⟨q0, R0⟩ := HR.out; exact ⟨q0, R0.below bv0⟩
    clear bv0
    refine wpAnyH_take (i := 0) (v := .pointer (some ⟨r, 0, none⟩)) rfl (by kernel_rfl) (by kernel_rfl) (by kernel_rfl) (fun _ _ _ h => h) (Or.inl ⟨by kernel_rfl, ?_⟩) hHeld ?_
    · intro w' hSw
      obtain ⟨hc0, hz0⟩ := hSw
      first | (go_simp; done) | (go_simp; with_reducible rfl) | (go_simp; rw [IntKind.wrap_i64]; omega) | (go_simp; omega)
    simp only [Act.put, List.setIfInBounds_toArray, List.set_cons_zero, List.set_cons_succ]
    refine wpAnyH_take (i := 3) (v := .pointer (some ⟨r, 0, none⟩)) rfl (by kernel_rfl) (by kernel_rfl) (by kernel_rfl) (fun _ _ _ h => h) (Or.inl ⟨by kernel_rfl, ?_⟩) hHeld ?_
    · intro w' hSw
      obtain ⟨hc0, hz0⟩ := hSw
      first | (go_simp; done) | (go_simp; with_reducible rfl) | (go_simp; rw [IntKind.wrap_i64]; omega) | (go_simp; omega)
    simp only [Act.put, List.setIfInBounds_toArray, List.set_cons_zero, List.set_cons_succ]
    refine wpAnyH_take (i := 4) (v := .pointer (some ⟨gn, 0, none⟩)) rfl (by kernel_rfl) (by kernel_rfl) (by kernel_rfl) (fun _ _ _ h => h) (Or.inl ⟨by kernel_rfl, ?_⟩) hHeld ?_
    · intro w' hSw
      obtain ⟨hc0, hz0⟩ := hSw
      first | (go_simp; done) | (go_simp; with_reducible rfl) | (go_simp; rw [IntKind.wrap_i64]; omega) | (go_simp; omega)
    simp only [Act.put, List.setIfInBounds_toArray, List.set_cons_zero, List.set_cons_succ]
    refine wpAnyH_take (i := 5) (v := .int .i64 P) rfl (by kernel_rfl) (by kernel_rfl) (by kernel_rfl) (fun _ _ _ h => h) (Or.inl ⟨by kernel_rfl, ?_⟩) hHeld ?_
    · intro w' hSw
      obtain ⟨hc0, hz0⟩ := hSw
      first | (go_simp; done) | (go_simp; with_reducible rfl) | (go_simp; rw [IntKind.wrap_i64]; omega) | (go_simp; omega)
    simp only [Act.put, List.setIfInBounds_toArray, List.set_cons_zero, List.set_cons_succ]
    refine wpAnyH_take (i := 6) (v := .int .i64 m) rfl (by kernel_rfl) (by kernel_rfl) (by kernel_rfl) (fun _ _ _ h => h) (Or.inl ⟨by kernel_rfl, ?_⟩) hHeld ?_
    · intro w' hSw
      obtain ⟨hc0, hz0⟩ := hSw
      first | (go_simp; done) | (go_simp; rw [hm]; done) | (rw [← hm]; go_simp; done)
    simp only [Act.put, List.setIfInBounds_toArray, List.set_cons_zero, List.set_cons_succ]
    refine wpAnyH_take (i := 7) (v := .int .i64 q) rfl (by kernel_rfl) (by kernel_rfl) (by kernel_rfl) (fun _ _ _ h => h) (Or.inl ⟨by kernel_rfl, ?_⟩) hHeld ?_
    · intro w' hSw
      obtain ⟨hc0, hz0⟩ := hSw
      first | (go_simp; rw [hm]; exact congrArg _ hq) | (rw [← hq]; go_simp; done) | (go_simp; simp [hq]; done)
    simp only [Act.put, List.setIfInBounds_toArray, List.set_cons_zero, List.set_cons_succ]
    refine wpAnyH_ready (rs := [1, 10]) (by kernel_rfl) (by simp) ?_
    refine (AllReadyH.cons rfl (fun KK hK => ?_) (AllReadyH.cons rfl (fun KK hK => ?_) AllReadyH.nil))
    · obtain ⟨q0, R0⟩ := HR.out
      go_simp
      go_wp2_with (first | (go_at_call 80; refine (below_any 9 R0).mono ?_; rintro e v0_1 ⟨a, p5, rfl, a0, a6, -, R5, b5⟩))
      replace HN : Hid (Blk v0_1 gn [.int .i64 P, .slice td nd kd, .slice ts ns ks]) := HN.out.beside b5 (by omega)
      replace HU : Hid (Blk v0_1 gu [.int .i64 0, .int .i64 0, .slice none 0 0]) := HU.out.beside b5 (by omega)
      replace HS : Hid (Beside r w v0_1) := HS.out.trans b5
      replace HR : Hid (∃ q, Rd v0_1 r s n c q) := ⟨_, R5⟩
      clear R5 b5 R0
      refine hK.out _ _ (⟨HN.out.2.2 0 _ rfl, HN.out.1⟩) (fun hHeld => ?_)
      clear hK KK
      refine wpAnyH_take (i := 2) (v := .int .i64 (1 + a)) rfl (by kernel_rfl) (by kernel_rfl) (by kernel_rfl) (fun _ _ _ h => h) (Or.inl ⟨by kernel_rfl, ?_⟩) hHeld ?_
      · intro w' hSw
        obtain ⟨hc0, hz0⟩ := hSw
        first | (go_simp; done) | (go_simp; with_reducible rfl) | (go_simp; rw [IntKind.wrap_i64]; omega) | (go_simp; omega)
      simp only [Act.put, List.setIfInBounds_toArray, List.set_cons_zero, List.set_cons_succ]
      refine wpAnyH_ready (rs := [8, 10]) (by kernel_rfl) (by simp) ?_
      refine (AllReadyH.cons rfl (fun KK hK => ?_) (AllReadyH.cons rfl (fun KK hK => ?_) AllReadyH.nil))
      · obtain ⟨q0, R0⟩ := HR.out
        go_simp
        go_wp2_with (first | (go_at_call 73; refine (off_all 0 q R0).mono ?_; rintro e v0_2 ⟨x, p5, rfl, R5, b5⟩))
        replace HN : Hid (Blk v0_2 gn [.int .i64 P, .slice td nd kd, .slice ts ns ks]) := HN.out.beside b5 (by omega)
        replace HU : Hid (Blk v0_2 gu [.int .i64 0, .int .i64 0, .slice none 0 0]) := HU.out.beside b5 (by omega)
        replace HS : Hid (Beside r w v0_2) := HS.out.trans b5
        replace HR : Hid (∃ q, Rd v0_2 r s n c q) := ⟨_, R5⟩
        clear R5 b5 R0
        refine hK.out _ _ (⟨HN.out.2.2 0 _ rfl, HN.out.1⟩) (fun hHeld => ?_)
        clear hK KK
        refine wpAnyH_take (i := 9) (v := .agg #[.int .i64 (1 + a), .int .i64 x, .slice none 0 0]) rfl (by kernel_rfl) (by kernel_rfl) (by kernel_rfl) (fun _ _ _ h => h) (Or.inl ⟨by kernel_rfl, ?_⟩) hHeld ?_
        · intro w' hSw
          obtain ⟨hc0, hz0⟩ := hSw
          first | (go_simp; done) | (go_simp; with_reducible rfl) | (go_simp; rw [IntKind.wrap_i64]; omega) | (go_simp; omega)
        simp only [Act.put, List.setIfInBounds_toArray, List.set_cons_zero, List.set_cons_succ]
        refine wpAnyH_ready (rs := [10]) (by kernel_rfl) (by simp) ?_
        refine (AllReadyH.cons rfl (fun KK hK => ?_) AllReadyH.nil)
        go_simp
        obtain ⟨v0_3, hv_⟩ : ∃ z, z = v0_2.alloc (.cells #[.int .i64 0, .int .i64 0, .slice none 0 0] 44) := ⟨_, rfl⟩
        rw [← hv_]
        obtain ⟨gp, hgp⟩ : ∃ z, z = v0_2.heap.size := ⟨_, rfl⟩
        have b5 : Below v0_2.heap.size v0_2 v0_3 := by rw [hv_]; exact below0 _ _
        have HP : Hid (Blk v0_3 gp [.int .i64 0, .int .i64 0, .slice none 0 0]) := by rw [hv_, hgp]; exact Blk.new v0_2 #[.int .i64 0, .int .i64 0, .slice none 0 0] _
        have zgp : gu < gp := by have := HU.out.1; omega
        replace HN : Hid (Blk v0_3 gn [.int .i64 P, .slice td nd kd, .slice ts ns ks]) := HN.out.below b5
        replace HU : Hid (Blk v0_3 gu [.int .i64 0, .int .i64 0, .slice none 0 0]) := HU.out.below b5
        replace HS : Hid (Beside r w v0_3) := HS.out.later b5
        replace HR : Hid (∃ q, Rd v0_3 r s n c q) := by obtain ⟨q0, R0⟩ := HR.out; exact ⟨q0, R0.below b5⟩
        try rw [← hgp]
        clear hv_ hgp b5
        refine hK.out _ _ (⟨HN.out.2.2 0 _ rfl, HN.out.1⟩) (fun hHeld => ?_)
        clear hK KK
        refine wpAnyH_ready (rs := [11]) (by kernel_rfl) (by simp) ?_
        refine (AllReadyH.cons rfl (fun KK hK => ?_) AllReadyH.nil)
        have t0 := HP.out.2.1 0
        have t1 := HP.out.2.1 1
        have t2 := HP.out.2.1 2
        have tz := HP.out.1
        have d0 := HP.out.2.2 0 _ rfl
        have d1 := HP.out.2.2 1 _ rfl
        have d2 := HP.out.2.2 2 _ rfl
        have hst := store_slT
        go_simp
        obtain ⟨v0_4, hv_⟩ : ∃ z, z = ((v0_3.setCell ⟨gp, 0, none⟩ (.int .i64 (1 + a))).setCell ⟨gp, 1, none⟩ (.int .i64 x)).setCell ⟨gp, 2, none⟩ (.slice none 0 0) := ⟨_, rfl⟩
        rw [← hv_]
        have b5 : Beside gp v0_3 v0_4 := by rw [hv_]; exact ((Beside.setCell gp v0_3 0 _).trans (Beside.setCell gp _ 1 _)).trans (Beside.setCell gp _ 2 _)
        replace HP : Hid (Blk v0_4 gp [.int .i64 (1 + a), .int .i64 x, .slice none 0 0]) := by show Blk _ _ _; rw [hv_]; exact ((HP.out.set 0 _).set 1 _).set 2 _
        replace HN : Hid (Blk v0_4 gn [.int .i64 P, .slice td nd kd, .slice ts ns ks]) := HN.out.beside b5 (by omega)
        replace HU : Hid (Blk v0_4 gu [.int .i64 0, .int .i64 0, .slice none 0 0]) := HU.out.beside b5 (by omega)
        replace HS : Hid (Beside r w v0_4) := HS.out.onB (b5.below (by omega) HS.out.2.2.2.1)
        replace HR : Hid (∃ q, Rd v0_4 r s n c q) := by obtain ⟨q0, R0⟩ := HR.out; exact ⟨q0, Rd.below' R0 (b5.below (by omega) (by have := R0.1; omega))⟩
        clear hv_ b5 t0 t1 t2 tz d0 d1 d2 hst
        refine hK.out _ _ (⟨HN.out.2.2 0 _ rfl, HN.out.1⟩) (fun hHeld => ?_)
        clear hK KK
        refine wpAnyH_done (by kernel_rfl) ?_ _
        clear hHeld
        go_wp2_with fail
        go_meet
        exact ⟨gp, 1 + a, x, rfl, zgp, HR, HS, HN, HU, HP⟩
      · go_simp
        obtain ⟨v0_5, hv_⟩ : ∃ z, z = v0_1.alloc (.cells #[.int .i64 0, .int .i64 0, .slice none 0 0] 44) := ⟨_, rfl⟩
        rw [← hv_]
        obtain ⟨gp, hgp⟩ : ∃ z, z = v0_1.heap.size := ⟨_, rfl⟩
        have b5 : Below v0_1.heap.size v0_1 v0_5 := by rw [hv_]; exact below0 _ _
        have HP : Hid (Blk v0_5 gp [.int .i64 0, .int .i64 0, .slice none 0 0]) := by rw [hv_, hgp]; exact Blk.new v0_1 #[.int .i64 0, .int .i64 0, .slice none 0 0] _
        have zgp : gu < gp := by have := HU.out.1; omega
        replace HN : Hid (Blk v0_5 gn [.int .i64 P, .slice td nd kd, .slice ts ns ks]) := HN.out.below b5
        replace HU : Hid (Blk v0_5 gu [.int .i64 0, .int .i64 0, .slice none 0 0]) := HU.out.below b5
        replace HS : Hid (Beside r w v0_5) := HS.out.later b5
        replace HR : Hid (∃ q, Rd v0_5 r s n c q) := by obtain ⟨q0, R0⟩ := HR.out; exact ⟨q0, R0.below b5⟩
        try rw [← hgp]
        clear hv_ hgp b5
        refine hK.out _ _ (⟨HN.out.2.2 0 _ rfl, HN.out.1⟩) (fun hHeld => ?_)
        clear hK KK
        refine wpAnyH_ready (rs := [8]) (by kernel_rfl) (by simp) ?_
        refine (AllReadyH.cons rfl (fun KK hK => ?_) AllReadyH.nil)
        obtain ⟨q0, R0⟩ := HR.out
        go_simp
        go_wp2_with (first | (go_at_call 73; refine (off_all 0 q R0).mono ?_; rintro e v0_6 ⟨x, p5, rfl, R5, b5⟩))
        replace HN : Hid (Blk v0_6 gn [.int .i64 P, .slice td nd kd, .slice ts ns ks]) := HN.out.beside b5 (by omega)
        replace HU : Hid (Blk v0_6 gu [.int .i64 0, .int .i64 0, .slice none 0 0]) := HU.out.beside b5 (by omega)
        replace HS : Hid (Beside r w v0_6) := HS.out.trans b5
        replace HP : Hid (Blk v0_6 gp [.int .i64 0, .int .i64 0, .slice none 0 0]) := HP.out.beside b5 (by omega)
        replace HR : Hid (∃ q, Rd v0_6 r s n c q) := ⟨_, R5⟩
        clear R5 b5 R0
        refine hK.out _ _ (⟨HN.out.2.2 0 _ rfl, HN.out.1⟩) (fun hHeld => ?_)
        clear hK KK
        refine wpAnyH_take (i := 9) (v := .agg #[.int .i64 (1 + a), .int .i64 x, .slice none 0 0]) rfl (by kernel_rfl) (by kernel_rfl) (by kernel_rfl) (fun _ _ _ h => h) (Or.inl ⟨by kernel_rfl, ?_⟩) hHeld ?_
        · intro w' hSw
          obtain ⟨hc0, hz0⟩ := hSw
          first | (go_simp; done) | (go_simp; with_reducible rfl) | (go_simp; rw [IntKind.wrap_i64]; omega) | (go_simp; omega)
        simp only [Act.put, List.setIfInBounds_toArray, List.set_cons_zero, List.set_cons_succ]
        refine wpAnyH_ready (rs := [11]) (by kernel_rfl) (by simp) ?_
        refine (AllReadyH.cons rfl (fun KK hK => ?_) AllReadyH.nil)
        have t0 := HP.out.2.1 0
        have t1 := HP.out.2.1 1
        have t2 := HP.out.2.1 2
        have tz := HP.out.1
        have d0 := HP.out.2.2 0 _ rfl
        have d1 := HP.out.2.2 1 _ rfl
        have d2 := HP.out.2.2 2 _ rfl
        have hst := store_slT
        go_simp
        obtain ⟨v0_7, hv_⟩ : ∃ z, z = ((v0_6.setCell ⟨gp, 0, none⟩ (.int .i64 (1 + a))).setCell ⟨gp, 1, none⟩ (.int .i64 x)).setCell ⟨gp, 2, none⟩ (.slice none 0 0) := ⟨_, rfl⟩
        rw [← hv_]
        have b5 : Beside gp v0_6 v0_7 := by rw [hv_]; exact ((Beside.setCell gp v0_6 0 _).trans (Beside.setCell gp _ 1 _)).trans (Beside.setCell gp _ 2 _)
        replace HP : Hid (Blk v0_7 gp [.int .i64 (1 + a), .int .i64 x, .slice none 0 0]) := by show Blk _ _ _; rw [hv_]; exact ((HP.out.set 0 _).set 1 _).set 2 _
        replace HN : Hid (Blk v0_7 gn [.int .i64 P, .slice td nd kd, .slice ts ns ks]) := HN.out.beside b5 (by omega)
        replace HU : Hid (Blk v0_7 gu [.int .i64 0, .int .i64 0, .slice none 0 0]) := HU.out.beside b5 (by omega)
        replace HS : Hid (Beside r w v0_7) := HS.out.onB (b5.below (by omega) HS.out.2.2.2.1)
        replace HR : Hid (∃ q, Rd v0_7 r s n c q) := by obtain ⟨q0, R0⟩ := HR.out; exact ⟨q0, Rd.below' R0 (b5.below (by omega) (by have := R0.1; omega))⟩
        clear hv_ b5 t0 t1 t2 tz d0 d1 d2 hst
        refine hK.out _ _ (⟨HN.out.2.2 0 _ rfl, HN.out.1⟩) (fun hHeld => ?_)
        clear hK KK
        refine wpAnyH_done (by kernel_rfl) ?_ _
        clear hHeld
        go_wp2_with fail
        go_meet
        exact ⟨gp, 1 + a, x, rfl, zgp, HR, HS, HN, HU, HP⟩
    · go_simp
      obtain ⟨v0_8, hv_⟩ : ∃ z, z = v0.alloc (.cells #[.int .i64 0, .int .i64 0, .slice none 0 0] 44) := ⟨_, rfl⟩
      rw [← hv_]
      obtain ⟨gp, hgp⟩ : ∃ z, z = v0.heap.size := ⟨_, rfl⟩
      have b5 : Below v0.heap.size v0 v0_8 := by rw [hv_]; exact below0 _ _
      have HP : Hid (Blk v0_8 gp [.int .i64 0, .int .i64 0, .slice none 0 0]) := by rw [hv_, hgp]; exact Blk.new v0 #[.int .i64 0, .int .i64 0, .slice none 0 0] _
      have zgp : gu < gp := by have := HU.out.1; omega
      replace HN : Hid (Blk v0_8 gn [.int .i64 P, .slice td nd kd, .slice ts ns ks]) := HN.out.below b5
      replace HU : Hid (Blk v0_8 gu [.int .i64 0, .int .i64 0, .slice none 0 0]) := HU.out.below b5
      replace HS : Hid (Beside r w v0_8) := HS.out.later b5
      replace HR : Hid (∃ q, Rd v0_8 r s n c q) := by obtain ⟨q0, R0⟩ := HR.out; exact ⟨q0, R0.below b5⟩
      try rw [← hgp]
      clear hv_ hgp b5
      refine hK.out _ _ (⟨HN.out.2.2 0 _ rfl, HN.out.1⟩) (fun hHeld => ?_)
      clear hK KK
      refine wpAnyH_ready (rs := [1]) (by kernel_rfl) (by simp) ?_
      refine (AllReadyH.cons rfl (fun KK hK => ?_) AllReadyH.nil)
      obtain ⟨q0, R0⟩ := HR.out
      go_simp
      go_wp2_with (first | (go_at_call 80; refine (below_any 9 R0).mono ?_; rintro e v0_9 ⟨a, p5, rfl, a0, a6, -, R5, b5⟩))
      replace HN : Hid (Blk v0_9 gn [.int .i64 P, .slice td nd kd, .slice ts ns ks]) := HN.out.beside b5 (by omega)
      replace HU : Hid (Blk v0_9 gu [.int .i64 0, .int .i64 0, .slice none 0 0]) := HU.out.beside b5 (by omega)
      replace HS : Hid (Beside r w v0_9) := HS.out.trans b5
      replace HP : Hid (Blk v0_9 gp [.int .i64 0, .int .i64 0, .slice none 0 0]) := HP.out.beside b5 (by omega)
      replace HR : Hid (∃ q, Rd v0_9 r s n c q) := ⟨_, R5⟩
      clear R5 b5 R0
      refine hK.out _ _ (⟨HN.out.2.2 0 _ rfl, HN.out.1⟩) (fun hHeld => ?_)
      clear hK KK
      refine wpAnyH_take (i := 2) (v := .int .i64 (1 + a)) rfl (by kernel_rfl) (by kernel_rfl) (by kernel_rfl) (fun _ _ _ h => h) (Or.inl ⟨by kernel_rfl, ?_⟩) hHeld ?_
      · intro w' hSw
        obtain ⟨hc0, hz0⟩ := hSw
        first | (go_simp; done) | (go_simp; with_reducible rfl) | (go_simp; rw [IntKind.wrap_i64]; omega) | (go_simp; omega)
      simp only [Act.put, List.setIfInBounds_toArray, List.set_cons_zero, List.set_cons_succ]
      refine wpAnyH_ready (rs := [8]) (by kernel_rfl) (by simp) ?_
      refine (AllReadyH.cons rfl (fun KK hK => ?_) AllReadyH.nil)
      obtain ⟨q0, R0⟩ := HR.out
      go_simp
      go_wp2_with (first | (go_at_call 73; refine (off_all 0 q R0).mono ?_; rintro e v0_10 ⟨x, p5, rfl, R5, b5⟩))
      replace HN : Hid (Blk v0_10 gn [.int .i64 P, .slice td nd kd, .slice ts ns ks]) := HN.out.beside b5 (by omega)
      replace HU : Hid (Blk v0_10 gu [.int .i64 0, .int .i64 0, .slice none 0 0]) := HU.out.beside b5 (by omega)
      replace HS : Hid (Beside r w v0_10) := HS.out.trans b5
      replace HP : Hid (Blk v0_10 gp [.int .i64 0, .int .i64 0, .slice none 0 0]) := HP.out.beside b5 (by omega)
      replace HR : Hid (∃ q, Rd v0_10 r s n c q) := ⟨_, R5⟩
      clear R5 b5 R0
      refine hK.out _ _ (⟨HN.out.2.2 0 _ rfl, HN.out.1⟩) (fun hHeld => ?_)
      clear hK KK
      refine wpAnyH_take (i := 9) (v := .agg #[.int .i64 (1 + a), .int .i64 x, .slice none 0 0]) rfl (by kernel_rfl) (by kernel_rfl) (by kernel_rfl) (fun _ _ _ h => h) (Or.inl ⟨by kernel_rfl, ?_⟩) hHeld ?_
      · intro w' hSw
        obtain ⟨hc0, hz0⟩ := hSw
        first | (go_simp; done) | (go_simp; with_reducible rfl) | (go_simp; rw [IntKind.wrap_i64]; omega) | (go_simp; omega)
      simp only [Act.put, List.setIfInBounds_toArray, List.set_cons_zero, List.set_cons_succ]
      refine wpAnyH_ready (rs := [11]) (by kernel_rfl) (by simp) ?_
      refine (AllReadyH.cons rfl (fun KK hK => ?_) AllReadyH.nil)
      have t0 := HP.out.2.1 0
      have t1 := HP.out.2.1 1
      have t2 := HP.out.2.1 2
      have tz := HP.out.1
      have d0 := HP.out.2.2 0 _ rfl
      have d1 := HP.out.2.2 1 _ rfl
      have d2 := HP.out.2.2 2 _ rfl
      have hst := store_slT
      go_simp
      obtain ⟨v0_11, hv_⟩ : ∃ z, z = ((v0_10.setCell ⟨gp, 0, none⟩ (.int .i64 (1 + a))).setCell ⟨gp, 1, none⟩ (.int .i64 x)).setCell ⟨gp, 2, none⟩ (.slice none 0 0) := ⟨_, rfl⟩
      rw [← hv_]
      have b5 : Beside gp v0_10 v0_11 := by rw [hv_]; exact ((Beside.setCell gp v0_10 0 _).trans (Beside.setCell gp _ 1 _)).trans (Beside.setCell gp _ 2 _)
      replace HP : Hid (Blk v0_11 gp [.int .i64 (1 + a), .int .i64 x, .slice none 0 0]) := by show Blk _ _ _; rw [hv_]; exact ((HP.out.set 0 _).set 1 _).set 2 _
      replace HN : Hid (Blk v0_11 gn [.int .i64 P, .slice td nd kd, .slice ts ns ks]) := HN.out.beside b5 (by omega)
      replace HU : Hid (Blk v0_11 gu [.int .i64 0, .int .i64 0, .slice none 0 0]) := HU.out.beside b5 (by omega)
      replace HS : Hid (Beside r w v0_11) := HS.out.onB (b5.below (by omega) HS.out.2.2.2.1)
      replace HR : Hid (∃ q, Rd v0_11 r s n c q) := by obtain ⟨q0, R0⟩ := HR.out; exact ⟨q0, Rd.below' R0 (b5.below (by omega) (by have := R0.1; omega))⟩
      clear hv_ b5 t0 t1 t2 tz d0 d1 d2 hst
      refine hK.out _ _ (⟨HN.out.2.2 0 _ rfl, HN.out.1⟩) (fun hHeld => ?_)
      clear hK KK
      refine wpAnyH_done (by kernel_rfl) ?_ _
      clear hHeld
      go_wp2_with fail
      go_meet
      exact ⟨gp, 1 + a, x, rfl, zgp, HR, HS, HN, HU, HP⟩
  obtain ⟨gp, a, x, rfl, zgp, HR, HS, HN, HU, HP⟩ := hcut
  rename World => w2
  have HD2 : Hid (RowDuct w2 td nd D) := HD0.out.besP HS.out HTD.out
  have HS2 : Hid (RowI w2 ts ns S) := HS0.out.besPI HS.out HTS.out
  have c0 := HN.out.2.2 0 _ rfl
  have c1 := HN.out.2.2 1 _ rfl
  have c2 := HN.out.2.2 2 _ rfl
  have cz := HN.out.1
  have p1 := HP.out.2.2 1 _ rfl
  have pz := HP.out.1
  go_wp2_with fail
  refine (specFewestL_any P td nd kd D ts ns ks S x _ (by omega) (by omega) HD2 HS2).mono ?_
  rintro e w3 ⟨s1, c1', L1, rfl, O1, F1, b3⟩
  have l14 : L1.length ≤ 14 := by obtain ⟨M, hM, hE⟩ := fw_ex P nd D ns S x; rw [hE L1 F1]; exact hM
  obtain ⟨ok, hok⟩ : ∃ z, fewB P nd D ns S x = z := ⟨_, rfl⟩
  rw [hok]
  have O2 := own_lstP O1
  obtain ⟨n1, hn1⟩ : ∃ z, L1.length = z := ⟨_, rfl⟩
  rw [hn1] at O2 l14 ⊢
  obtain ⟨V1, hV1⟩ : ∃ z, z = nthI L1 := ⟨_, rfl⟩
  rw [← hV1] at O2
  have HV : Hid (Lst (gp + 1) 2 1 w3 (.slice s1 n1 c1') n1 V1) := O2.lowN (by omega)
  replace HN : Hid (Blk w3 gn [.int .i64 P, .slice td nd kd, .slice ts ns ks]) := HN.out.below b3
  replace HU : Hid (Blk w3 gu [.int .i64 0, .int .i64 0, .slice none 0 0]) := HU.out.below b3
  replace HP : Hid (Blk w3 gp [.int .i64 a, .int .i64 x, .slice none 0 0]) := HP.out.below b3
  replace HS : Hid (Beside r w w3) := HS.out.trans (Beside.of b3)
  replace HR : Hid (∃ q, Rd w3 r s n c q) := by obtain ⟨q_, R_⟩ := HR.out; exact ⟨q_, R_.below b3⟩
  clear b3 O1 O2 F1 hok hn1 hV1 HD2 HS2 c0 c1 c2 cz p1 pz
  cases ok
  case false =>
    clear HV
    have c0 := HN.out.2.2 0 _ rfl
    have c1 := HN.out.2.2 1 _ rfl
    have c2 := HN.out.2.2 2 _ rfl
    have cz := HN.out.1
    obtain ⟨q0, R0⟩ := HR.out
    go_wp2_with fail
    refine (valves_any hn R0).mono ?_
    rintro e v1 hK
    unfold VaPost at hK
    obtain ⟨t9, k9, kc9, p9, U9, rfl, k9l, L9, R9, b9⟩ := hK
    have zp_ : gp < w3.heap.size := HP.out.1
    replace HN : Hid (Blk v1 gn [.int .i64 P, .slice td nd kd, .slice ts ns ks]) := HN.out.beside b9 (by omega)
    replace HU : Hid (Blk v1 gu [.int .i64 0, .int .i64 0, .slice none 0 0]) := HU.out.beside b9 (by omega)
    replace HP : Hid (Blk v1 gp [.int .i64 a, .int .i64 x, .slice none 0 0]) := HP.out.beside b9 (by omega)
    replace HS : Hid (Beside r w v1) := HS.out.trans b9
    replace HR : Hid (∃ q, Rd v1 r s n c q) := ⟨_, R9⟩
    have HV : Hid (Lst (gp + 1) 2 1 v1 (.slice t9 k9 kc9) k9 U9) := L9.lowN (by omega)
    clear R0 R9 b9 L9 c0 c1 c2 cz zp_
    have sto := store_slT
    have p2 := HP.out.2.2 2 _ rfl
    have f2 := HP.out.2.1 2
    have z2 := HP.out.1
    go_upto_region 7 with fail
    clear p2 f2 z2
    obtain ⟨v1s, hw_⟩ : ∃ z, z = v1.setCell ⟨gp, 2, none⟩ (.slice t9 k9 kc9) := ⟨_, rfl⟩
    try rw [← hw_]
    have bs_ : Beside gp v1 v1s := by rw [hw_]; exact Beside.setCell gp _ _ _
    have zr_ : r < v1.heap.size := by obtain ⟨q_, R_⟩ := HR.out; exact R_.1
    have zs_ : w.heap.size ≤ v1.heap.size := HS.out.2.2.2.1
    replace HP : Hid (Blk v1s gp [.int .i64 a, .int .i64 x, .slice t9 k9 kc9]) := by show Blk _ _ _; rw [hw_]; exact HP.out.set 2 _
    replace HN : Hid (Blk v1s gn [.int .i64 P, .slice td nd kd, .slice ts ns ks]) := HN.out.beside bs_ (by omega)
    replace HU : Hid (Blk v1s gu [.int .i64 0, .int .i64 0, .slice none 0 0]) := HU.out.beside bs_ (by omega)
    replace HV : Hid (Lst (gp + 1) 2 1 v1s (.slice t9 k9 kc9) k9 U9) := HV.out.beside bs_ (by omega)
    replace HR : Hid (∃ q, Rd v1s r s n c q) := by obtain ⟨q_, R_⟩ := HR.out; exact ⟨q_, Rd.below' R_ (bs_.below (by omega) (by omega))⟩
    replace HS : Hid (Beside r w v1s) := HS.out.onB (bs_.below (by omega) zs_)
    clear hw_ bs_ zr_ zs_
    have p0 := HP.out.2.2 0 _ rfl
    have u0 := HU.out.2.2 0 _ rfl
    have f0 := HU.out.2.1 0
    have p1 := HP.out.2.2 1 _ rfl
    have u1 := HU.out.2.2 1 _ rfl
    have f1 := HU.out.2.1 1
    have p2 := HP.out.2.2 2 _ rfl
    have u2 := HU.out.2.2 2 _ rfl
    have f2 := HU.out.2.1 2
    obtain ⟨qz, Rz⟩ := HR.out
    have zu_ := HU.out.1
    have zp_ := HP.out.1
    have n_ : gp ≠ gu := by omega
    have BS := HS.out
    have sBS := BS.2.2.2.1
    have sto := store_slT
    have hRB : ∀ W2, Below gu v1s W2 → Rd W2 r s n c qz := fun W2 hb => Rd.below' Rz (hb.mono (by omega))
    have hrow : ∀ W2, Beside gu v1s W2 → Lst w.heap.size 2 1 W2 (.slice t9 k9 kc9) k9 U9 := fun W2 hb => (Lst.beside HV.out hb (by omega)).lowN (by omega)
    go_wp2
    refine bodyPost_ret (v := .agg #[.int .i64 a, .int .i64 x, .slice t9 k9 kc9]) (by simp [results, Try.results81, go_sem, p0, p1, p2, u0, u1, u2, n_, n_.symm]) rfl ?_
    unfold PmPost
    exact ⟨a, x, _, _, _, _, qz, rfl, by omega, hrow _ (((Beside.setCell gu _ 0 _).trans (Beside.setCell gu _ 1 _)).trans (Beside.setCell gu _ 2 _)), hRB _ (show Below gu v1s _ from (by repeat (first | with_reducible exact Below.refl _ _ | with_reducible refine Below.setCell ?_ (by first | omega | (simp; done) | (simp; omega)) _ | with_reducible refine bDrewN ?_ _ | with_reducible refine Below.drew ?_ | with_reducible refine Below.alloc ?_ (by first | omega | (simp; done) | (simp; omega)) _))), BS.onB (show Below w.heap.size v1s _ from (by repeat (first | with_reducible exact Below.refl _ _ | with_reducible refine Below.setCell ?_ (by first | omega | (simp; done) | (simp; omega)) _ | with_reducible refine bDrewN ?_ _ | with_reducible refine Below.drew ?_ | with_reducible refine Below.alloc ?_ (by first | omega | (simp; done) | (simp; omega)) _)))⟩
  case true =>
    have sto := store_slT
    have p2 := HP.out.2.2 2 _ rfl
    have f2 := HP.out.2.1 2
    have z2 := HP.out.1
    go_upto_region 5 with fail
    clear p2 f2 z2 sto
    obtain ⟨w4, hw_⟩ : ∃ z, z = w3.setCell ⟨gp, 2, none⟩ (.slice s1 n1 c1') := ⟨_, rfl⟩
    try rw [← hw_]
    have bs_ : Beside gp w3 w4 := by rw [hw_]; exact Beside.setCell gp _ _ _
    have zr_ : r < w3.heap.size := by obtain ⟨q_, R_⟩ := HR.out; exact R_.1
    have zs_ : w.heap.size ≤ w3.heap.size := HS.out.2.2.2.1
    replace HP : Hid (Blk w4 gp [.int .i64 a, .int .i64 x, .slice s1 n1 c1']) := by show Blk _ _ _; rw [hw_]; exact HP.out.set 2 _
    replace HN : Hid (Blk w4 gn [.int .i64 P, .slice td nd kd, .slice ts ns ks]) := HN.out.beside bs_ (by omega)
    replace HU : Hid (Blk w4 gu [.int .i64 0, .int .i64 0, .slice none 0 0]) := HU.out.beside bs_ (by omega)
    replace HV : Hid (Lst (gp + 1) 2 1 w4 (.slice s1 n1 c1') n1 V1) := HV.out.beside bs_ (by omega)
    replace HR : Hid (∃ q, Rd w4 r s n c q) := by obtain ⟨q_, R_⟩ := HR.out; exact ⟨q_, Rd.below' R_ (bs_.below (by omega) (by omega))⟩
    replace HS : Hid (Beside r w w4) := HS.out.onB (bs_.below (by omega) zs_)
    clear hw_ bs_ zr_ zs_
    obtain ⟨q0, R0⟩ := HR.out
    go_wp2_with fail
    refine (once_any 3 (by omega) (by omega) R0).mono ?_
    rintro e w5 ⟨bo, p5, rfl, R5, b5⟩
    replace HN : Hid (Blk w5 gn [.int .i64 P, .slice td nd kd, .slice ts ns ks]) := HN.out.beside b5 (by omega)
    replace HU : Hid (Blk w5 gu [.int .i64 0, .int .i64 0, .slice none 0 0]) := HU.out.beside b5 (by omega)
    replace HP : Hid (Blk w5 gp [.int .i64 a, .int .i64 x, .slice s1 n1 c1']) := HP.out.beside b5 (by omega)
    replace HV : Hid (Lst (gp + 1) 2 1 w5 (.slice s1 n1 c1') n1 V1) := HV.out.beside b5 (by omega)
    replace HS : Hid (Beside r w w5) := HS.out.trans b5
    replace HR : Hid (∃ q, Rd w5 r s n c q) := ⟨_, R5⟩
    clear R0 R5 b5
    cases bo
    case false =>
      have p0 := HP.out.2.2 0 _ rfl
      have u0 := HU.out.2.2 0 _ rfl
      have f0 := HU.out.2.1 0
      have p1 := HP.out.2.2 1 _ rfl
      have u1 := HU.out.2.2 1 _ rfl
      have f1 := HU.out.2.1 1
      have p2 := HP.out.2.2 2 _ rfl
      have u2 := HU.out.2.2 2 _ rfl
      have f2 := HU.out.2.1 2
      obtain ⟨qz, Rz⟩ := HR.out
      have zu_ := HU.out.1
      have zp_ := HP.out.1
      have n_ : gp ≠ gu := by omega
      have BS := HS.out
      have sBS := BS.2.2.2.1
      have sto := store_slT
      have hRB : ∀ W2, Below gu w5 W2 → Rd W2 r s n c qz := fun W2 hb => Rd.below' Rz (hb.mono (by omega))
      have hrow : ∀ W2, Beside gu w5 W2 → Lst w.heap.size 2 1 W2 (.slice s1 n1 c1') n1 V1 := fun W2 hb => (Lst.beside HV.out hb (by omega)).lowN (by omega)
      go_wp2
      refine bodyPost_ret (v := .agg #[.int .i64 a, .int .i64 x, .slice s1 n1 c1']) (by simp [results, Try.results81, go_sem, p0, p1, p2, u0, u1, u2, n_, n_.symm]) rfl ?_
      unfold PmPost
      exact ⟨a, x, _, _, _, _, qz, rfl, by omega, hrow _ (((Beside.setCell gu _ 0 _).trans (Beside.setCell gu _ 1 _)).trans (Beside.setCell gu _ 2 _)), hRB _ (show Below gu w5 _ from (by repeat (first | with_reducible exact Below.refl _ _ | with_reducible refine Below.setCell ?_ (by first | omega | (simp; done) | (simp; omega)) _ | with_reducible refine bDrewN ?_ _ | with_reducible refine Below.drew ?_ | with_reducible refine Below.alloc ?_ (by first | omega | (simp; done) | (simp; omega)) _))), BS.onB (show Below w.heap.size w5 _ from (by repeat (first | with_reducible exact Below.refl _ _ | with_reducible refine Below.setCell ?_ (by first | omega | (simp; done) | (simp; omega)) _ | with_reducible refine bDrewN ?_ _ | with_reducible refine Below.drew ?_ | with_reducible refine Below.alloc ?_ (by first | omega | (simp; done) | (simp; omega)) _)))⟩
    case true =>
      have c0 := HN.out.2.2 0 _ rfl
      have c1 := HN.out.2.2 1 _ rfl
      have c2 := HN.out.2.2 2 _ rfl
      have cz := HN.out.1
      obtain ⟨q0, R0⟩ := HR.out
      go_wp2_with fail
      refine (valves_any hn R0).mono ?_
      rintro e v2 hK
      unfold VaPost at hK
      obtain ⟨t9, k9, kc9, p9, U9, rfl, k9l, L9, R9, b9⟩ := hK
      have zp_ : gp < w5.heap.size := HP.out.1
      clear HV
      replace HN : Hid (Blk v2 gn [.int .i64 P, .slice td nd kd, .slice ts ns ks]) := HN.out.beside b9 (by omega)
      replace HU : Hid (Blk v2 gu [.int .i64 0, .int .i64 0, .slice none 0 0]) := HU.out.beside b9 (by omega)
      replace HP : Hid (Blk v2 gp [.int .i64 a, .int .i64 x, .slice s1 n1 c1']) := HP.out.beside b9 (by omega)
      replace HS : Hid (Beside r w v2) := HS.out.trans b9
      replace HR : Hid (∃ q, Rd v2 r s n c q) := ⟨_, R9⟩
      have HV : Hid (Lst (gp + 1) 2 1 v2 (.slice t9 k9 kc9) k9 U9) := L9.lowN (by omega)
      clear R0 R9 b9 L9 c0 c1 c2 cz zp_
      have sto := store_slT
      have p2 := HP.out.2.2 2 _ rfl
      have f2 := HP.out.2.1 2
      have z2 := HP.out.1
      go_upto_region 7 with fail
      clear p2 f2 z2
      obtain ⟨v2s, hw_⟩ : ∃ z, z = v2.setCell ⟨gp, 2, none⟩ (.slice t9 k9 kc9) := ⟨_, rfl⟩
      try rw [← hw_]
      have bs_ : Beside gp v2 v2s := by rw [hw_]; exact Beside.setCell gp _ _ _
      have zr_ : r < v2.heap.size := by obtain ⟨q_, R_⟩ := HR.out; exact R_.1
      have zs_ : w.heap.size ≤ v2.heap.size := HS.out.2.2.2.1
      replace HP : Hid (Blk v2s gp [.int .i64 a, .int .i64 x, .slice t9 k9 kc9]) := by show Blk _ _ _; rw [hw_]; exact HP.out.set 2 _
      replace HN : Hid (Blk v2s gn [.int .i64 P, .slice td nd kd, .slice ts ns ks]) := HN.out.beside bs_ (by omega)
      replace HU : Hid (Blk v2s gu [.int .i64 0, .int .i64 0, .slice none 0 0]) := HU.out.beside bs_ (by omega)
      replace HV : Hid (Lst (gp + 1) 2 1 v2s (.slice t9 k9 kc9) k9 U9) := HV.out.beside bs_ (by omega)
      replace HR : Hid (∃ q, Rd v2s r s n c q) := by obtain ⟨q_, R_⟩ := HR.out; exact ⟨q_, Rd.below' R_ (bs_.below (by omega) (by omega))⟩
      replace HS : Hid (Beside r w v2s) := HS.out.onB (bs_.below (by omega) zs_)
      clear hw_ bs_ zr_ zs_
      have p0 := HP.out.2.2 0 _ rfl
      have u0 := HU.out.2.2 0 _ rfl
      have f0 := HU.out.2.1 0
      have p1 := HP.out.2.2 1 _ rfl
      have u1 := HU.out.2.2 1 _ rfl
      have f1 := HU.out.2.1 1
      have p2 := HP.out.2.2 2 _ rfl
      have u2 := HU.out.2.2 2 _ rfl
      have f2 := HU.out.2.1 2
      obtain ⟨qz, Rz⟩ := HR.out
      have zu_ := HU.out.1
      have zp_ := HP.out.1
      have n_ : gp ≠ gu := by omega
      have BS := HS.out
      have sBS := BS.2.2.2.1
      have sto := store_slT
      have hRB : ∀ W2, Below gu v2s W2 → Rd W2 r s n c qz := fun W2 hb => Rd.below' Rz (hb.mono (by omega))
      have hrow : ∀ W2, Beside gu v2s W2 → Lst w.heap.size 2 1 W2 (.slice t9 k9 kc9) k9 U9 := fun W2 hb => (Lst.beside HV.out hb (by omega)).lowN (by omega)
      go_wp2
      refine bodyPost_ret (v := .agg #[.int .i64 a, .int .i64 x, .slice t9 k9 kc9]) (by simp [results, Try.results81, go_sem, p0, p1, p2, u0, u1, u2, n_, n_.symm]) rfl ?_
      unfold PmPost
      exact ⟨a, x, _, _, _, _, qz, rfl, by omega, hrow _ (((Beside.setCell gu _ 0 _).trans (Beside.setCell gu _ 1 _)).trans (Beside.setCell gu _ 2 _)), hRB _ (show Below gu v2s _ from (by repeat (first | with_reducible exact Below.refl _ _ | with_reducible refine Below.setCell ?_ (by first | omega | (simp; done) | (simp; omega)) _ | with_reducible refine bDrewN ?_ _ | with_reducible refine Below.drew ?_ | with_reducible refine Below.alloc ?_ (by first | omega | (simp; done) | (simp; omega)) _))), BS.onB (show Below w.heap.size v2s _ from (by repeat (first | with_reducible exact Below.refl _ _ | with_reducible refine Below.setCell ?_ (by first | omega | (simp; done) | (simp; omega)) _ | with_reducible refine bDrewN ?_ _ | with_reducible refine Below.drew ?_ | with_reducible refine Below.alloc ?_ (by first | omega | (simp; done) | (simp; omega)) _)))⟩
end Go.Proofs.Ytikcfpjfcpbfcaa
