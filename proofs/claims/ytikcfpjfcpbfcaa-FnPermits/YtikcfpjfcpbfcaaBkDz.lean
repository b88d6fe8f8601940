/-
What is proved: the draw of a book.
-/
import Derived.Test.YtikcfpjfcpbfcaaBkNz
import Derived.Test.YtikcfpjfcpbfcaaFeNz
namespace Go.Proofs.Ytikcfpjfcpbfcaa
set_option maxRecDepth 40000
open Go.ChangeShapes Go.WideShapes Go.ChangeAt Go.RowKit
set_option linter.unusedVariables false
set_option linter.unusedSimpArgs false

theorem PtKc.offB {base n r : Nat} {W W' : World} {v : Value} {X Y : Nat → Int} {K : Nat → Nat} {V : Nat → Nat → Int} (h : PtKc base W v n X Y K V) (hb : Beside r W W') (hr : ∃ cur, W.heap[r]? = some (.cells cur 36 (0, 0))) : PtKc base W' v n X Y K V := by
  obtain ⟨A, C, G, h1, h2, hc⟩ := h
  refine ⟨A, C, G, own_same h1 (fun g hg => hb.2.2.2.2 g (World.ownsRow.lt h1 g hg).2 (fun e => ?_)), h2.same hb.2.2.2.1 (fun g a b t => hb.2.2.2.2 g b (fun e => ?_)), hc⟩
  · obtain ⟨c1, q1⟩ := ownP_ty h1 hg
    obtain ⟨c2, q2⟩ := hr
    rw [e, q2] at q1
    cases q1
  · obtain ⟨c1, q1⟩ := t
    obtain ⟨c2, q2⟩ := hr
    rw [e, q2] at q1
    cases q1
def BkPost (r : Nat) (s : Option Addr) (n c : Nat) (w : World) (e : Ending) (w' : World) : Prop := ∃ (bs : Option Addr) (nb bc : Nat) (X Y : Nat → Int) (K : Nat → Nat) (V : Nat → Nat → Int) (p' : Nat), e = .returned (.agg #[.slice bs nb bc]) ∧ nb ≤ 6 ∧ (∀ i, i < nb → K i ≤ 70000) ∧ BkF w.heap.size w' (.slice bs nb bc) nb X Y K V ∧ Rd w' r s n c p' ∧ Beside r w w'
set_option maxRecDepth 20000 in
set_option maxHeartbeats 16000000 in
theorem book_any {r : Nat} {s : Option Addr} {n c p : Nat} {w : World} {P : Int} {td : Option Addr} {nd kd : Nat} {ts : Option Addr} {ns ks : Nat} {D : Nat → Int × Int} {S : Nat → Int} (hn : nd ≤ 70000) (hs : ns ≤ 10) (HD0 : Hid (RowDuct w td nd D)) (HS0 : Hid (RowI w ts ns S)) (HTD : Hid (∀ g o, td = some ⟨g, o, none⟩ → g ≠ r)) (HTS : Hid (∀ g o, ts = some ⟨g, o, none⟩ → g ≠ r)) (h : Hid (Rd w r s n c p)) :
    Calls Try.prog 78 #[.pointer (some ⟨r, 0, none⟩), .agg #[.int .i64 P, .slice td nd kd, .slice ts ns ks]] w fun e w' => BkPost r s n c w e w' := by
  have zr : r < w.heap.size := h.out.1
  go_enter Try.func78, Try.ntmps78
  go_upto_region 1 with fail
  obtain ⟨wa, hwa⟩ : ∃ z, z = w.alloc (.cells #[.int .i64 P, .slice td nd kd, .slice ts ns ks] 41) := ⟨_, rfl⟩
  try rw [← hwa]
  obtain ⟨gn, hgn⟩ : ∃ z, z = w.heap.size := ⟨_, rfl⟩
  have ba : Below w.heap.size w wa := by rw [hwa]; exact below0 _ _
  have HNa : Hid (Blk wa gn [.int .i64 P, .slice td nd kd, .slice ts ns ks]) := by rw [hwa, hgn]; exact Blk.new w #[.int .i64 P, .slice td nd kd, .slice ts ns ks] _
  obtain ⟨wb, hwb⟩ : ∃ z, z = wa.alloc (.cells #[.slice none 0 0] 36) := ⟨_, rfl⟩
  try rw [← hwb]
  obtain ⟨gu, hgu⟩ : ∃ z, z = wa.heap.size := ⟨_, rfl⟩
  have bb : Below wa.heap.size wa wb := by rw [hwb]; exact below0 _ _
  have HU : Hid (Blk wb gu [.slice none 0 0]) := by rw [hwb, hgu]; exact Blk.new wa #[.slice none 0 0] _
  have HN : Hid (Blk wb gn [.int .i64 P, .slice td nd kd, .slice ts ns ks]) := HNa.out.below bb
  have HR : Hid (∃ q, Rd wb r s n c q) := ⟨p, (h.out.below ba).below bb⟩
  have HS : Hid (Beside r w wb) := (Beside.of ba).trans (Beside.of bb)
  have zgu : gn < gu := by have := HNa.out.1; omega
  have zgn : r < gn := by omega
  have zwn : w.heap.size ≤ gn := by omega
  have hq1 : w.heap.size + 1 = gu := by rw [hgu, hwa]; simp
  try rw [hq1]
  try rw [← hgu]
  try rw [← hgn]
  clear hwa hwb ba bb hgu hgn HNa h hq1
  go_upto_region 2 with fail
  obtain ⟨wc, hwc⟩ : ∃ z, z = wb.alloc (.cells #[.slice none 0 0] 36) := ⟨_, rfl⟩
  try rw [← hwc]
  obtain ⟨g5, hg5⟩ : ∃ z, z = wb.heap.size := ⟨_, rfl⟩
  have bc_ : Below wb.heap.size wb wc := by rw [hwc]; exact below0 _ _
  have HB : Hid (Blk wc g5 [.slice none 0 0]) := by show Blk _ _ _; rw [hwc, hg5]; exact Blk.new wb #[.slice none 0 0] _
  have z5 : gu < g5 := by have := HU.out.1; omega
  replace HN : Hid (Blk wc gn [.int .i64 P, .slice td nd kd, .slice ts ns ks]) := HN.out.below bc_
  replace HU : Hid (Blk wc gu [.slice none 0 0]) := HU.out.below bc_
  replace HS : Hid (Beside r w wc) := HS.out.trans (Beside.of bc_)
  replace HR : Hid (∃ q, Rd wc r s n c q) := by obtain ⟨q_, R_⟩ := HR.out; exact ⟨q_, R_.below bc_⟩
  try rw [← hg5]
  clear hwc hg5 bc_
  obtain ⟨q0, R0⟩ := HR.out
  go_wp2_with fail
  refine (below_any 6 R0).mono ?_
  rintro e w1 ⟨kk, p1, rfl, k0, -, k1, R1, b1⟩
  replace HN : Hid (Blk w1 gn [.int .i64 P, .slice td nd kd, .slice ts ns ks]) := HN.out.beside b1 (by omega)
  replace HU : Hid (Blk w1 gu [.slice none 0 0]) := HU.out.beside b1 (by omega)
  replace HB : Hid (Blk w1 g5 [.slice none 0 0]) := HB.out.beside b1 (by omega)
  replace HS : Hid (Beside r w w1) := HS.out.trans b1
  replace HR : Hid (∃ q, Rd w1 r s n c q) := ⟨_, R1⟩
  clear R0 R1 b1
  obtain ⟨k9, rfl⟩ : ∃ k : Nat, kk = (k : Int) := ⟨kk.toNat, by omega⟩
  have k95 : k9 ≤ 5 := by omega
  have HL : Hid (PtKc (g5 + 1) w1 (.slice none 0 0) 0 (fun _ => 0) (fun _ => 0) (fun _ => 0) (fun _ _ => 0)) := PtKc.nil _ _ _ _ _ _
  clear k0 k1
  go_wp2_with fail
  go_loopw [6] (fun i wx => ∃ (k nb bc : Nat) (bs : Option Addr) (X Y : Nat → Int) (K : Nat → Nat) (V : Nat → Nat → Int), i = .int .i64 (k : Int) ∧ nb + k ≤ 5 ∧ Hid (∃ q, Rd wx r s n c q) ∧ Hid (Beside r w wx) ∧ Hid (Blk wx gn [.int .i64 P, .slice td nd kd, .slice ts ns ks]) ∧ Hid (Blk wx gu [.slice none 0 0]) ∧ Hid (Blk wx g5 [.slice bs nb bc]) ∧ Hid (PtKc (g5 + 1) wx (.slice bs nb bc) nb X Y K V) ∧ Hid (∀ i, i < nb → K i ≤ 70000)) (fun i _ => (intOf i).toNat)
  case atStart => exact ⟨k9, 0, 0, none, _, _, _, _, rfl, by omega, HR, HS, HN, HU, HB, HL, fun i hi => absurd hi (Nat.not_lt_zero i)⟩
  case round =>
    clear HR HS HN HU HB HL
    obtain ⟨k, nb, bc, bs, X, Y, K, V, rfl, hk5, HR, HS, HN, HU, HB, HL, HKb⟩ := hrel
    rename World => wr
    by_cases h1 : 0 < k
    case pos =>
      have h1i : (0 : Int) < (k : Int) := by omega
      go_upto_region 5 with fail
      go_cut [7, 8] (fun v7 v8 wx => ∃ (g7 nb' bc' : Nat) (bs' : Option Addr) (X' Y' : Nat → Int) (K' : Nat → Nat) (V' : Nat → Nat → Int) (cd : Int), v7 = .pointer (some ⟨g7, 0, none⟩) ∧ v8 = .int .i64 cd ∧ g5 < g7 ∧ nb' ≤ nb + 1 ∧ Hid (∃ q, Rd wx r s n c q) ∧ Hid (Beside r w wx) ∧ Hid (Blk wx gn [.int .i64 P, .slice td nd kd, .slice ts ns ks]) ∧ Hid (Blk wx gu [.slice none 0 0]) ∧ Hid (Blk wx g5 [.slice bs nb bc]) ∧ Hid (PtKc (g5 + 1) wx (.slice bs nb bc) nb X Y K V) ∧ Hid (Blk wx g7 [.slice bs' nb' bc']) ∧ Hid (PtKc (g5 + 1) wx (.slice bs' nb' bc') nb' X' Y' K' V') ∧ Hid (∀ i, i < nb' → K' i ≤ 70000))
      case first =>
        refine wp_region_held_drew (S := fun w' => w'.cell? ⟨gn, 0, none⟩ = some (.int .i64 P) ∧ w'.cell? ⟨gn, 1, none⟩ = some (.slice td nd kd) ∧ w'.cell? ⟨gn, 2, none⟩ = some (.slice ts ns ks) ∧ w'.cell? ⟨g5, 0, none⟩ = some (.slice bs nb bc) ∧ gn < w'.heap.size ∧ g5 < w'.heap.size) (by kernel_rfl) ?_ (fun hHeld => ?_)
        · exact ⟨HN.out.2.2 0 _ rfl, HN.out.2.2 1 _ rfl, HN.out.2.2 2 _ rfl, HB.out.2.2 0 _ rfl, HN.out.1, HB.out.1⟩
        obtain ⟨v0, hv0⟩ : ∃ z, z = wr.drew := ⟨_, rfl⟩
        try rw [← hv0] at hHeld
        rw [← hv0]
        have bv0 : Below wr.heap.size wr v0 := by rw [hv0]; exact Below.drew (Below.refl _ _)
        clear hv0
        replace HN : Hid (Blk v0 gn [.int .i64 P, .slice td nd kd, .slice ts ns ks]) := HN.out.below bv0
        replace HU : Hid (Blk v0 gu [.slice none 0 0]) := HU.out.below bv0
        replace HB : Hid (Blk v0 g5 [.slice bs nb bc]) := HB.out.below bv0
        replace HL : Hid (PtKc (g5 + 1) v0 (.slice bs nb bc) nb X Y K V) := HL.out.below bv0
        replace HS : Hid (Beside r w v0) := HS.out.trans (Beside.of bv0)
        replace HR : Hid (∃ q, Rd v0 r s n c q) := by obtain ⟨q_, R_⟩ := HR.out; exact ⟨q_, R_.below bv0⟩
        clear bv0
        refine wpAnyH_take (i := 0) (v := .agg #[.int .i64 P, .slice td nd kd, .slice ts ns ks]) rfl (by kernel_rfl) (by kernel_rfl) (by kernel_rfl) (fun _ _ _ h => h) (Or.inl ⟨by kernel_rfl, ?_⟩) hHeld ?_
        · intro w' hSw
          obtain ⟨hc0, hc1, hc2, hc3, hz0, hz1⟩ := hSw
          first | (go_simp; done) | (go_simp; with_reducible rfl) | (go_simp; rw [IntKind.wrap_i64]; omega) | (go_simp; omega)
        simp only [Act.put, List.setIfInBounds_toArray, List.set_cons_zero, List.set_cons_succ]
        refine wpAnyH_take (i := 1) (v := .agg #[.slice bs nb bc]) rfl (by kernel_rfl) (by kernel_rfl) (by kernel_rfl) (fun _ _ _ h => h) (Or.inl ⟨by kernel_rfl, ?_⟩) hHeld ?_
        · intro w' hSw
          obtain ⟨hc0, hc1, hc2, hc3, hz0, hz1⟩ := hSw
          first | (go_simp; done) | (go_simp; with_reducible rfl) | (go_simp; rw [IntKind.wrap_i64]; omega) | (go_simp; omega)
        simp only [Act.put, List.setIfInBounds_toArray, List.set_cons_zero, List.set_cons_succ]
        refine wpAnyH_take (i := 2) (v := .pointer (some ⟨r, 0, none⟩)) rfl (by kernel_rfl) (by kernel_rfl) (by kernel_rfl) (fun _ _ _ h => h) (Or.inl ⟨by kernel_rfl, ?_⟩) hHeld ?_
        · intro w' hSw
          obtain ⟨hc0, hc1, hc2, hc3, hz0, hz1⟩ := hSw
          first | (go_simp; done) | (go_simp; with_reducible rfl) | (go_simp; rw [IntKind.wrap_i64]; omega) | (go_simp; omega)
        simp only [Act.put, List.setIfInBounds_toArray, List.set_cons_zero, List.set_cons_succ]
        refine wpAnyH_take (i := 3) (v := .agg #[.int .i64 P, .slice td nd kd, .slice ts ns ks]) rfl (by kernel_rfl) (by kernel_rfl) (by kernel_rfl) (fun _ _ _ h => h) (Or.inl ⟨by kernel_rfl, ?_⟩) hHeld ?_
        · intro w' hSw
          obtain ⟨hc0, hc1, hc2, hc3, hz0, hz1⟩ := hSw
          first | (go_simp; done) | (go_simp; with_reducible rfl) | (go_simp; rw [IntKind.wrap_i64]; omega) | (go_simp; omega)
        simp only [Act.put, List.setIfInBounds_toArray, List.set_cons_zero, List.set_cons_succ]
        refine wpAnyH_ready (rs := [4, 9]) (by kernel_rfl) (by simp) ?_
        refine (AllReadyH.cons rfl (fun KK hK => ?_) (AllReadyH.cons rfl (fun KK hK => ?_) AllReadyH.nil))
        · have HDx : Hid (RowDuct v0 td nd D) := HD0.out.besP HS.out HTD.out
          have HSx : Hid (RowI v0 ts ns S) := HS0.out.besPI HS.out HTS.out
          obtain ⟨q0, R0⟩ := HR.out
          go_simp
          go_wp2_with (first | (go_at_call 81; refine (permit_any hn hs HDx HSx HTD HTS R0).mono ?_; rintro e v0_1 hP; unfold PmPost at hP; obtain ⟨pi, px, pt, pk, pkc, PU, p5, rfl, pk7, PL, R5, b5⟩ := hP))
          have zg5_ : g5 < v0.heap.size := HB.out.1
          have HPl : Hid (Lst (g5 + 1) 2 1 v0_1 (.slice pt pk pkc) pk PU) := PL.lowN (by omega)
          replace HN : Hid (Blk v0_1 gn [.int .i64 P, .slice td nd kd, .slice ts ns ks]) := HN.out.beside b5 (by omega)
          replace HU : Hid (Blk v0_1 gu [.slice none 0 0]) := HU.out.beside b5 (by omega)
          replace HB : Hid (Blk v0_1 g5 [.slice bs nb bc]) := HB.out.beside b5 (by omega)
          replace HL : Hid (PtKc (g5 + 1) v0_1 (.slice bs nb bc) nb X Y K V) := HL.out.beside b5 (by omega)
          replace HS : Hid (Beside r w v0_1) := HS.out.trans b5
          replace HR : Hid (∃ q, Rd v0_1 r s n c q) := ⟨_, R5⟩
          clear R5 b5 R0 PL HDx HSx zg5_
          refine hK.out _ _ (⟨HN.out.2.2 0 _ rfl, HN.out.2.2 1 _ rfl, HN.out.2.2 2 _ rfl, HB.out.2.2 0 _ rfl, HN.out.1, HB.out.1⟩) (fun hHeld => ?_)
          clear hK KK
          refine wpAnyH_ready (rs := [5, 9]) (by kernel_rfl) (by simp) ?_
          refine (AllReadyH.cons rfl (fun KK hK => ?_) (AllReadyH.cons rfl (fun KK hK => ?_) AllReadyH.nil))
          · have HDx : Hid (RowDuct v0_1 td nd D) := HD0.out.besP HS.out HTD.out
            have HSx : Hid (RowI v0_1 ts ns S) := HS0.out.besPI HS.out HTS.out
            obtain ⟨pt', pc', pe', PO⟩ := HPl.out.own
            cases pe'
            rw [Nat.mul_one] at PO
            have HVx : Hid (RowI v0_1 pt pk PU) := PO.row
            have HRw : Hid (RowPer v0_1 bs nb X Y K V) := (HL.out.f.row).1
            obtain ⟨gq, hgq⟩ := grant_q P nd D ns S nb X Y K V pi px pk PU
            have HGQ : Hid (bokB P nd D ns S nb X Y K V = true → refV P nd D ns S nb X Y pi px pk PU = 0 → InsAt nb X pi gq) := hgq
            have HKi : Hid (∀ i, i < nb → (K i : Int) ≤ 1048576) := fun i hi => by have := HKb.out i hi; omega
            clear hgq PO
            go_simp
            go_wp2_with (first | (go_at_call 12; refine (specGrantK_any P td nd kd D ts ns ks S bs nb bc X Y K V pi px pt pk pkc PU gq _ (by omega) (by omega) HDx HSx (by omega) HKi HRw (by omega) HVx HGQ).mono ?_; rintro e v0_2 hG; obtain ⟨bs', bc', nb', X', Y', K', V', cd, rfl, nb1, HK7, HL7, b5⟩ := gr_any hG pk7 HKb.out HGQ.out))
            have zg5_ : g5 < v0_1.heap.size := HB.out.1
            have HM : Hid (PtKc (g5 + 1) v0_2 (.slice bs' nb' bc') nb' X' Y' K' V') := HL7.low (by omega)
            have HK' : Hid (∀ i, i < nb' → K' i ≤ 70000) := HK7
            replace HN : Hid (Blk v0_2 gn [.int .i64 P, .slice td nd kd, .slice ts ns ks]) := HN.out.below b5
            replace HU : Hid (Blk v0_2 gu [.slice none 0 0]) := HU.out.below b5
            replace HB : Hid (Blk v0_2 g5 [.slice bs nb bc]) := HB.out.below b5
            replace HL : Hid (PtKc (g5 + 1) v0_2 (.slice bs nb bc) nb X Y K V) := HL.out.below b5
            replace HS : Hid (Beside r w v0_2) := HS.out.trans (Beside.of b5)
            replace HR : Hid (∃ q, Rd v0_2 r s n c q) := by obtain ⟨q_, R_⟩ := HR.out; exact ⟨q_, R_.below b5⟩
            clear b5 HL7 HK7 hG HDx HSx HVx HRw HGQ HKi HPl zg5_
            refine hK.out _ _ (⟨HN.out.2.2 0 _ rfl, HN.out.2.2 1 _ rfl, HN.out.2.2 2 _ rfl, HB.out.2.2 0 _ rfl, HN.out.1, HB.out.1⟩) (fun hHeld => ?_)
            clear hK KK
            refine wpAnyH_take (i := 6) (v := .tuple #[.agg #[.slice bs' nb' bc'], .int .i64 cd]) rfl (by kernel_rfl) (by kernel_rfl) (by kernel_rfl) (fun _ _ _ h => h) (Or.inl ⟨by kernel_rfl, ?_⟩) hHeld ?_
            · intro w' hSw
              obtain ⟨hc0, hc1, hc2, hc3, hz0, hz1⟩ := hSw
              first | (go_simp; done) | (go_simp; with_reducible rfl) | (go_simp; rw [IntKind.wrap_i64]; omega) | (go_simp; omega)
            simp only [Act.put, List.setIfInBounds_toArray, List.set_cons_zero, List.set_cons_succ]
            refine wpAnyH_take (i := 7) (v := .agg #[.slice bs' nb' bc']) rfl (by kernel_rfl) (by kernel_rfl) (by kernel_rfl) (fun _ _ _ h => h) (Or.inl ⟨by kernel_rfl, ?_⟩) hHeld ?_
            · intro w' hSw
              obtain ⟨hc0, hc1, hc2, hc3, hz0, hz1⟩ := hSw
              first | (go_simp; done) | (go_simp; with_reducible rfl) | (go_simp; rw [IntKind.wrap_i64]; omega) | (go_simp; omega)
            simp only [Act.put, List.setIfInBounds_toArray, List.set_cons_zero, List.set_cons_succ]
            refine wpAnyH_take (i := 8) (v := .int .i64 cd) rfl (by kernel_rfl) (by kernel_rfl) (by kernel_rfl) (fun _ _ _ h => h) (Or.inl ⟨by kernel_rfl, ?_⟩) hHeld ?_
            · intro w' hSw
              obtain ⟨hc0, hc1, hc2, hc3, hz0, hz1⟩ := hSw
              first | (go_simp; done) | (go_simp; with_reducible rfl) | (go_simp; rw [IntKind.wrap_i64]; omega) | (go_simp; omega)
            simp only [Act.put, List.setIfInBounds_toArray, List.set_cons_zero, List.set_cons_succ]
            refine wpAnyH_ready (rs := [9]) (by kernel_rfl) (by simp) ?_
            refine (AllReadyH.cons rfl (fun KK hK => ?_) AllReadyH.nil)
            go_simp
            obtain ⟨v0_3, hv_⟩ : ∃ z, z = v0_2.alloc (.cells #[.slice none 0 0] 36) := ⟨_, rfl⟩
            rw [← hv_]
            obtain ⟨g7, hg7⟩ : ∃ z, z = v0_2.heap.size := ⟨_, rfl⟩
            have b5 : Below v0_2.heap.size v0_2 v0_3 := by rw [hv_]; exact below0 _ _
            have H7T : Hid (∃ cur, v0_3.heap[g7]? = some (.cells cur 36 (0, 0))) := ⟨_, by rw [hv_, hg7]; exact heap_alloc_new _ _⟩
            have H7 : Hid (Blk v0_3 g7 [.slice none 0 0]) := by rw [hv_, hg7]; exact Blk.new v0_2 #[.slice none 0 0] _
            have z57 : g5 < g7 := by have := HB.out.1; omega
            replace HN : Hid (Blk v0_3 gn [.int .i64 P, .slice td nd kd, .slice ts ns ks]) := HN.out.below b5
            replace HU : Hid (Blk v0_3 gu [.slice none 0 0]) := HU.out.below b5
            replace HB : Hid (Blk v0_3 g5 [.slice bs nb bc]) := HB.out.below b5
            replace HL : Hid (PtKc (g5 + 1) v0_3 (.slice bs nb bc) nb X Y K V) := HL.out.below b5
            replace HS : Hid (Beside r w v0_3) := HS.out.trans (Beside.of b5)
            replace HR : Hid (∃ q, Rd v0_3 r s n c q) := by obtain ⟨q_, R_⟩ := HR.out; exact ⟨q_, R_.below b5⟩
            replace HM : Hid (PtKc (g5 + 1) v0_3 (.slice bs' nb' bc') nb' X' Y' K' V') := HM.out.below b5
            try rw [← hg7]
            clear hv_ hg7 b5
            refine hK.out _ _ (⟨HN.out.2.2 0 _ rfl, HN.out.2.2 1 _ rfl, HN.out.2.2 2 _ rfl, HB.out.2.2 0 _ rfl, HN.out.1, HB.out.1⟩) (fun hHeld => ?_)
            clear hK KK
            refine wpAnyH_ready (rs := [10]) (by kernel_rfl) (by simp) ?_
            refine (AllReadyH.cons rfl (fun KK hK => ?_) AllReadyH.nil)
            have t0 := H7.out.2.1 0
            have d0 := H7.out.2.2 0 _ rfl
            have tz := H7.out.1
            have hst := store_slT
            go_simp
            obtain ⟨v0_4, hv_⟩ : ∃ z, z = v0_3.setCell ⟨g7, 0, none⟩ (.slice bs' nb' bc') := ⟨_, rfl⟩
            rw [← hv_]
            have b5 : Beside g7 v0_3 v0_4 := by rw [hv_]; exact Beside.setCell g7 v0_3 0 _
            have hty : ∃ cur, v0_3.heap[g7]? = some (.cells cur 36 (0, 0)) := H7T.out
            replace H7 : Hid (Blk v0_4 g7 [.slice bs' nb' bc']) := by show Blk _ _ _; rw [hv_]; exact H7.out.set 0 _
            replace HM : Hid (PtKc (g5 + 1) v0_4 (.slice bs' nb' bc') nb' X' Y' K' V') := HM.out.offB b5 hty
            replace HL : Hid (PtKc (g5 + 1) v0_4 (.slice bs nb bc) nb X Y K V) := HL.out.offB b5 hty
            replace HN : Hid (Blk v0_4 gn [.int .i64 P, .slice td nd kd, .slice ts ns ks]) := HN.out.beside b5 (by omega)
            replace HU : Hid (Blk v0_4 gu [.slice none 0 0]) := HU.out.beside b5 (by omega)
            replace HB : Hid (Blk v0_4 g5 [.slice bs nb bc]) := HB.out.beside b5 (by omega)
            have zr_ : r < v0_3.heap.size := by obtain ⟨q_, R_⟩ := HR.out; exact R_.1
            have zs_ : w.heap.size ≤ v0_3.heap.size := HS.out.2.2.2.1
            replace HR : Hid (∃ q, Rd v0_4 r s n c q) := by obtain ⟨q_, R_⟩ := HR.out; exact ⟨q_, Rd.below' R_ (b5.below (by omega) (by omega))⟩
            replace HS : Hid (Beside r w v0_4) := HS.out.onB (b5.below (by omega) zs_)
            clear zr_ zs_
            clear hv_ b5 t0 d0 tz hst hty
            refine hK.out _ _ (⟨HN.out.2.2 0 _ rfl, HN.out.2.2 1 _ rfl, HN.out.2.2 2 _ rfl, HB.out.2.2 0 _ rfl, HN.out.1, HB.out.1⟩) (fun hHeld => ?_)
            clear hK KK
            refine wpAnyH_ready (rs := [11]) (by kernel_rfl) (by simp) ?_
            refine AllReadyH.cons rfl (fun KK hK => ?_) AllReadyH.nil
            go_simp
            refine hK.out _ _ hHeld (fun hHeld => ?_)
            clear hK KK
            refine wpAnyH_done (by kernel_rfl) ?_ _
            clear hHeld
            go_wp2_with fail
            go_meet
            exact ⟨g7, nb', bc', bs', X', Y', K', V', cd, rfl, rfl, z57, nb1, HR, HS, HN, HU, HB, HL, H7, HM, HK'⟩
          · go_simp
            obtain ⟨v0_5, hv_⟩ : ∃ z, z = v0_1.alloc (.cells #[.slice none 0 0] 36) := ⟨_, rfl⟩
            rw [← hv_]
            obtain ⟨g7, hg7⟩ : ∃ z, z = v0_1.heap.size := ⟨_, rfl⟩
            have b5 : Below v0_1.heap.size v0_1 v0_5 := by rw [hv_]; exact below0 _ _
            have H7T : Hid (∃ cur, v0_5.heap[g7]? = some (.cells cur 36 (0, 0))) := ⟨_, by rw [hv_, hg7]; exact heap_alloc_new _ _⟩
            have H7 : Hid (Blk v0_5 g7 [.slice none 0 0]) := by rw [hv_, hg7]; exact Blk.new v0_1 #[.slice none 0 0] _
            have z57 : g5 < g7 := by have := HB.out.1; omega
            replace HN : Hid (Blk v0_5 gn [.int .i64 P, .slice td nd kd, .slice ts ns ks]) := HN.out.below b5
            replace HU : Hid (Blk v0_5 gu [.slice none 0 0]) := HU.out.below b5
            replace HB : Hid (Blk v0_5 g5 [.slice bs nb bc]) := HB.out.below b5
            replace HL : Hid (PtKc (g5 + 1) v0_5 (.slice bs nb bc) nb X Y K V) := HL.out.below b5
            replace HS : Hid (Beside r w v0_5) := HS.out.trans (Beside.of b5)
            replace HR : Hid (∃ q, Rd v0_5 r s n c q) := by obtain ⟨q_, R_⟩ := HR.out; exact ⟨q_, R_.below b5⟩
            replace HPl : Hid (Lst (g5 + 1) 2 1 v0_5 (.slice pt pk pkc) pk PU) := HPl.out.below b5
            try rw [← hg7]
            clear hv_ hg7 b5
            refine hK.out _ _ (⟨HN.out.2.2 0 _ rfl, HN.out.2.2 1 _ rfl, HN.out.2.2 2 _ rfl, HB.out.2.2 0 _ rfl, HN.out.1, HB.out.1⟩) (fun hHeld => ?_)
            clear hK KK
            refine wpAnyH_ready (rs := [5]) (by kernel_rfl) (by simp) ?_
            refine (AllReadyH.cons rfl (fun KK hK => ?_) AllReadyH.nil)
            have HDx : Hid (RowDuct v0_5 td nd D) := HD0.out.besP HS.out HTD.out
            have HSx : Hid (RowI v0_5 ts ns S) := HS0.out.besPI HS.out HTS.out
            obtain ⟨pt', pc', pe', PO⟩ := HPl.out.own
            cases pe'
            rw [Nat.mul_one] at PO
            have HVx : Hid (RowI v0_5 pt pk PU) := PO.row
            have HRw : Hid (RowPer v0_5 bs nb X Y K V) := (HL.out.f.row).1
            obtain ⟨gq, hgq⟩ := grant_q P nd D ns S nb X Y K V pi px pk PU
            have HGQ : Hid (bokB P nd D ns S nb X Y K V = true → refV P nd D ns S nb X Y pi px pk PU = 0 → InsAt nb X pi gq) := hgq
            have HKi : Hid (∀ i, i < nb → (K i : Int) ≤ 1048576) := fun i hi => by have := HKb.out i hi; omega
            clear hgq PO
            go_simp
            go_wp2_with (first | (go_at_call 12; refine (specGrantK_any P td nd kd D ts ns ks S bs nb bc X Y K V pi px pt pk pkc PU gq _ (by omega) (by omega) HDx HSx (by omega) HKi HRw (by omega) HVx HGQ).mono ?_; rintro e v0_6 hG; obtain ⟨bs', bc', nb', X', Y', K', V', cd, rfl, nb1, HK7, HL7, b5⟩ := gr_any hG pk7 HKb.out HGQ.out))
            have zg5_ : g5 < v0_5.heap.size := HB.out.1
            have HM : Hid (PtKc (g5 + 1) v0_6 (.slice bs' nb' bc') nb' X' Y' K' V') := HL7.low (by omega)
            have HK' : Hid (∀ i, i < nb' → K' i ≤ 70000) := HK7
            replace HN : Hid (Blk v0_6 gn [.int .i64 P, .slice td nd kd, .slice ts ns ks]) := HN.out.below b5
            replace HU : Hid (Blk v0_6 gu [.slice none 0 0]) := HU.out.below b5
            replace HB : Hid (Blk v0_6 g5 [.slice bs nb bc]) := HB.out.below b5
            replace HL : Hid (PtKc (g5 + 1) v0_6 (.slice bs nb bc) nb X Y K V) := HL.out.below b5
            replace HS : Hid (Beside r w v0_6) := HS.out.trans (Beside.of b5)
            replace HR : Hid (∃ q, Rd v0_6 r s n c q) := by obtain ⟨q_, R_⟩ := HR.out; exact ⟨q_, R_.below b5⟩
            have lt7 := H7.out.1
            replace H7T : Hid (∃ cur, v0_6.heap[g7]? = some (.cells cur 36 (0, 0))) := by obtain ⟨cu, q_⟩ := H7T.out; exact ⟨cu, (b5.block g7 lt7).trans q_⟩
            replace H7 : Hid (Blk v0_6 g7 [.slice none 0 0]) := H7.out.below b5
            clear lt7
            clear b5 HL7 HK7 hG HDx HSx HVx HRw HGQ HKi HPl zg5_
            refine hK.out _ _ (⟨HN.out.2.2 0 _ rfl, HN.out.2.2 1 _ rfl, HN.out.2.2 2 _ rfl, HB.out.2.2 0 _ rfl, HN.out.1, HB.out.1⟩) (fun hHeld => ?_)
            clear hK KK
            refine wpAnyH_take (i := 6) (v := .tuple #[.agg #[.slice bs' nb' bc'], .int .i64 cd]) rfl (by kernel_rfl) (by kernel_rfl) (by kernel_rfl) (fun _ _ _ h => h) (Or.inl ⟨by kernel_rfl, ?_⟩) hHeld ?_
            · intro w' hSw
              obtain ⟨hc0, hc1, hc2, hc3, hz0, hz1⟩ := hSw
              first | (go_simp; done) | (go_simp; with_reducible rfl) | (go_simp; rw [IntKind.wrap_i64]; omega) | (go_simp; omega)
            simp only [Act.put, List.setIfInBounds_toArray, List.set_cons_zero, List.set_cons_succ]
            refine wpAnyH_take (i := 7) (v := .agg #[.slice bs' nb' bc']) rfl (by kernel_rfl) (by kernel_rfl) (by kernel_rfl) (fun _ _ _ h => h) (Or.inl ⟨by kernel_rfl, ?_⟩) hHeld ?_
            · intro w' hSw
              obtain ⟨hc0, hc1, hc2, hc3, hz0, hz1⟩ := hSw
              first | (go_simp; done) | (go_simp; with_reducible rfl) | (go_simp; rw [IntKind.wrap_i64]; omega) | (go_simp; omega)
            simp only [Act.put, List.setIfInBounds_toArray, List.set_cons_zero, List.set_cons_succ]
            refine wpAnyH_take (i := 8) (v := .int .i64 cd) rfl (by kernel_rfl) (by kernel_rfl) (by kernel_rfl) (fun _ _ _ h => h) (Or.inl ⟨by kernel_rfl, ?_⟩) hHeld ?_
            · intro w' hSw
              obtain ⟨hc0, hc1, hc2, hc3, hz0, hz1⟩ := hSw
              first | (go_simp; done) | (go_simp; with_reducible rfl) | (go_simp; rw [IntKind.wrap_i64]; omega) | (go_simp; omega)
            simp only [Act.put, List.setIfInBounds_toArray, List.set_cons_zero, List.set_cons_succ]
            refine wpAnyH_ready (rs := [10]) (by kernel_rfl) (by simp) ?_
            refine (AllReadyH.cons rfl (fun KK hK => ?_) AllReadyH.nil)
            have t0 := H7.out.2.1 0
            have d0 := H7.out.2.2 0 _ rfl
            have tz := H7.out.1
            have hst := store_slT
            go_simp
            obtain ⟨v0_7, hv_⟩ : ∃ z, z = v0_6.setCell ⟨g7, 0, none⟩ (.slice bs' nb' bc') := ⟨_, rfl⟩
            rw [← hv_]
            have b5 : Beside g7 v0_6 v0_7 := by rw [hv_]; exact Beside.setCell g7 v0_6 0 _
            have hty : ∃ cur, v0_6.heap[g7]? = some (.cells cur 36 (0, 0)) := H7T.out
            replace H7 : Hid (Blk v0_7 g7 [.slice bs' nb' bc']) := by show Blk _ _ _; rw [hv_]; exact H7.out.set 0 _
            replace HM : Hid (PtKc (g5 + 1) v0_7 (.slice bs' nb' bc') nb' X' Y' K' V') := HM.out.offB b5 hty
            replace HL : Hid (PtKc (g5 + 1) v0_7 (.slice bs nb bc) nb X Y K V) := HL.out.offB b5 hty
            replace HN : Hid (Blk v0_7 gn [.int .i64 P, .slice td nd kd, .slice ts ns ks]) := HN.out.beside b5 (by omega)
            replace HU : Hid (Blk v0_7 gu [.slice none 0 0]) := HU.out.beside b5 (by omega)
            replace HB : Hid (Blk v0_7 g5 [.slice bs nb bc]) := HB.out.beside b5 (by omega)
            have zr_ : r < v0_6.heap.size := by obtain ⟨q_, R_⟩ := HR.out; exact R_.1
            have zs_ : w.heap.size ≤ v0_6.heap.size := HS.out.2.2.2.1
            replace HR : Hid (∃ q, Rd v0_7 r s n c q) := by obtain ⟨q_, R_⟩ := HR.out; exact ⟨q_, Rd.below' R_ (b5.below (by omega) (by omega))⟩
            replace HS : Hid (Beside r w v0_7) := HS.out.onB (b5.below (by omega) zs_)
            clear zr_ zs_
            clear hv_ b5 t0 d0 tz hst hty
            refine hK.out _ _ (⟨HN.out.2.2 0 _ rfl, HN.out.2.2 1 _ rfl, HN.out.2.2 2 _ rfl, HB.out.2.2 0 _ rfl, HN.out.1, HB.out.1⟩) (fun hHeld => ?_)
            clear hK KK
            refine wpAnyH_ready (rs := [11]) (by kernel_rfl) (by simp) ?_
            refine AllReadyH.cons rfl (fun KK hK => ?_) AllReadyH.nil
            go_simp
            refine hK.out _ _ hHeld (fun hHeld => ?_)
            clear hK KK
            refine wpAnyH_done (by kernel_rfl) ?_ _
            clear hHeld
            go_wp2_with fail
            go_meet
            exact ⟨g7, nb', bc', bs', X', Y', K', V', cd, rfl, rfl, z57, nb1, HR, HS, HN, HU, HB, HL, H7, HM, HK'⟩
        · go_simp
          obtain ⟨v0_8, hv_⟩ : ∃ z, z = v0.alloc (.cells #[.slice none 0 0] 36) := ⟨_, rfl⟩
          rw [← hv_]
          obtain ⟨g7, hg7⟩ : ∃ z, z = v0.heap.size := ⟨_, rfl⟩
          have b5 : Below v0.heap.size v0 v0_8 := by rw [hv_]; exact below0 _ _
          have H7T : Hid (∃ cur, v0_8.heap[g7]? = some (.cells cur 36 (0, 0))) := ⟨_, by rw [hv_, hg7]; exact heap_alloc_new _ _⟩
          have H7 : Hid (Blk v0_8 g7 [.slice none 0 0]) := by rw [hv_, hg7]; exact Blk.new v0 #[.slice none 0 0] _
          have z57 : g5 < g7 := by have := HB.out.1; omega
          replace HN : Hid (Blk v0_8 gn [.int .i64 P, .slice td nd kd, .slice ts ns ks]) := HN.out.below b5
          replace HU : Hid (Blk v0_8 gu [.slice none 0 0]) := HU.out.below b5
          replace HB : Hid (Blk v0_8 g5 [.slice bs nb bc]) := HB.out.below b5
          replace HL : Hid (PtKc (g5 + 1) v0_8 (.slice bs nb bc) nb X Y K V) := HL.out.below b5
          replace HS : Hid (Beside r w v0_8) := HS.out.trans (Beside.of b5)
          replace HR : Hid (∃ q, Rd v0_8 r s n c q) := by obtain ⟨q_, R_⟩ := HR.out; exact ⟨q_, R_.below b5⟩
          try rw [← hg7]
          clear hv_ hg7 b5
          refine hK.out _ _ (⟨HN.out.2.2 0 _ rfl, HN.out.2.2 1 _ rfl, HN.out.2.2 2 _ rfl, HB.out.2.2 0 _ rfl, HN.out.1, HB.out.1⟩) (fun hHeld => ?_)
          clear hK KK
          refine wpAnyH_ready (rs := [4]) (by kernel_rfl) (by simp) ?_
          refine (AllReadyH.cons rfl (fun KK hK => ?_) AllReadyH.nil)
          have HDx : Hid (RowDuct v0_8 td nd D) := HD0.out.besP HS.out HTD.out
          have HSx : Hid (RowI v0_8 ts ns S) := HS0.out.besPI HS.out HTS.out
          obtain ⟨q0, R0⟩ := HR.out
          go_simp
          go_wp2_with (first | (go_at_call 81; refine (permit_any hn hs HDx HSx HTD HTS R0).mono ?_; rintro e v0_9 hP; unfold PmPost at hP; obtain ⟨pi, px, pt, pk, pkc, PU, p5, rfl, pk7, PL, R5, b5⟩ := hP))
          have zg5_ : g5 < v0_8.heap.size := HB.out.1
          have HPl : Hid (Lst (g5 + 1) 2 1 v0_9 (.slice pt pk pkc) pk PU) := PL.lowN (by omega)
          replace HN : Hid (Blk v0_9 gn [.int .i64 P, .slice td nd kd, .slice ts ns ks]) := HN.out.beside b5 (by omega)
          replace HU : Hid (Blk v0_9 gu [.slice none 0 0]) := HU.out.beside b5 (by omega)
          replace HB : Hid (Blk v0_9 g5 [.slice bs nb bc]) := HB.out.beside b5 (by omega)
          replace HL : Hid (PtKc (g5 + 1) v0_9 (.slice bs nb bc) nb X Y K V) := HL.out.beside b5 (by omega)
          replace HS : Hid (Beside r w v0_9) := HS.out.trans b5
          have lt7 := H7.out.1
          replace H7T : Hid (∃ cur, v0_9.heap[g7]? = some (.cells cur 36 (0, 0))) := by obtain ⟨cu, q_⟩ := H7T.out; exact ⟨cu, (b5.2.2.2.2 g7 lt7 (by omega)).trans q_⟩
          replace H7 : Hid (Blk v0_9 g7 [.slice none 0 0]) := H7.out.beside b5 (by omega)
          clear lt7
          replace HR : Hid (∃ q, Rd v0_9 r s n c q) := ⟨_, R5⟩
          clear R5 b5 R0 PL HDx HSx zg5_
          refine hK.out _ _ (⟨HN.out.2.2 0 _ rfl, HN.out.2.2 1 _ rfl, HN.out.2.2 2 _ rfl, HB.out.2.2 0 _ rfl, HN.out.1, HB.out.1⟩) (fun hHeld => ?_)
          clear hK KK
          refine wpAnyH_ready (rs := [5]) (by kernel_rfl) (by simp) ?_
          refine (AllReadyH.cons rfl (fun KK hK => ?_) AllReadyH.nil)
          have HDx : Hid (RowDuct v0_9 td nd D) := HD0.out.besP HS.out HTD.out
          have HSx : Hid (RowI v0_9 ts ns S) := HS0.out.besPI HS.out HTS.out
          obtain ⟨pt', pc', pe', PO⟩ := HPl.out.own
          cases pe'
          rw [Nat.mul_one] at PO
          have HVx : Hid (RowI v0_9 pt pk PU) := PO.row
          have HRw : Hid (RowPer v0_9 bs nb X Y K V) := (HL.out.f.row).1
          obtain ⟨gq, hgq⟩ := grant_q P nd D ns S nb X Y K V pi px pk PU
          have HGQ : Hid (bokB P nd D ns S nb X Y K V = true → refV P nd D ns S nb X Y pi px pk PU = 0 → InsAt nb X pi gq) := hgq
          have HKi : Hid (∀ i, i < nb → (K i : Int) ≤ 1048576) := fun i hi => by have := HKb.out i hi; omega
          clear hgq PO
          go_simp
          go_wp2_with (first | (go_at_call 12; refine (specGrantK_any P td nd kd D ts ns ks S bs nb bc X Y K V pi px pt pk pkc PU gq _ (by omega) (by omega) HDx HSx (by omega) HKi HRw (by omega) HVx HGQ).mono ?_; rintro e v0_10 hG; obtain ⟨bs', bc', nb', X', Y', K', V', cd, rfl, nb1, HK7, HL7, b5⟩ := gr_any hG pk7 HKb.out HGQ.out))
          have zg5_ : g5 < v0_9.heap.size := HB.out.1
          have HM : Hid (PtKc (g5 + 1) v0_10 (.slice bs' nb' bc') nb' X' Y' K' V') := HL7.low (by omega)
          have HK' : Hid (∀ i, i < nb' → K' i ≤ 70000) := HK7
          replace HN : Hid (Blk v0_10 gn [.int .i64 P, .slice td nd kd, .slice ts ns ks]) := HN.out.below b5
          replace HU : Hid (Blk v0_10 gu [.slice none 0 0]) := HU.out.below b5
          replace HB : Hid (Blk v0_10 g5 [.slice bs nb bc]) := HB.out.below b5
          replace HL : Hid (PtKc (g5 + 1) v0_10 (.slice bs nb bc) nb X Y K V) := HL.out.below b5
          replace HS : Hid (Beside r w v0_10) := HS.out.trans (Beside.of b5)
          replace HR : Hid (∃ q, Rd v0_10 r s n c q) := by obtain ⟨q_, R_⟩ := HR.out; exact ⟨q_, R_.below b5⟩
          have lt7 := H7.out.1
          replace H7T : Hid (∃ cur, v0_10.heap[g7]? = some (.cells cur 36 (0, 0))) := by obtain ⟨cu, q_⟩ := H7T.out; exact ⟨cu, (b5.block g7 lt7).trans q_⟩
          replace H7 : Hid (Blk v0_10 g7 [.slice none 0 0]) := H7.out.below b5
          clear lt7
          clear b5 HL7 HK7 hG HDx HSx HVx HRw HGQ HKi HPl zg5_
          refine hK.out _ _ (⟨HN.out.2.2 0 _ rfl, HN.out.2.2 1 _ rfl, HN.out.2.2 2 _ rfl, HB.out.2.2 0 _ rfl, HN.out.1, HB.out.1⟩) (fun hHeld => ?_)
          clear hK KK
          refine wpAnyH_take (i := 6) (v := .tuple #[.agg #[.slice bs' nb' bc'], .int .i64 cd]) rfl (by kernel_rfl) (by kernel_rfl) (by kernel_rfl) (fun _ _ _ h => h) (Or.inl ⟨by kernel_rfl, ?_⟩) hHeld ?_
          · intro w' hSw
            obtain ⟨hc0, hc1, hc2, hc3, hz0, hz1⟩ := hSw
            first | (go_simp; done) | (go_simp; with_reducible rfl) | (go_simp; rw [IntKind.wrap_i64]; omega) | (go_simp; omega)
          simp only [Act.put, List.setIfInBounds_toArray, List.set_cons_zero, List.set_cons_succ]
          refine wpAnyH_take (i := 7) (v := .agg #[.slice bs' nb' bc']) rfl (by kernel_rfl) (by kernel_rfl) (by kernel_rfl) (fun _ _ _ h => h) (Or.inl ⟨by kernel_rfl, ?_⟩) hHeld ?_
          · intro w' hSw
            obtain ⟨hc0, hc1, hc2, hc3, hz0, hz1⟩ := hSw
            first | (go_simp; done) | (go_simp; with_reducible rfl) | (go_simp; rw [IntKind.wrap_i64]; omega) | (go_simp; omega)
          simp only [Act.put, List.setIfInBounds_toArray, List.set_cons_zero, List.set_cons_succ]
          refine wpAnyH_take (i := 8) (v := .int .i64 cd) rfl (by kernel_rfl) (by kernel_rfl) (by kernel_rfl) (fun _ _ _ h => h) (Or.inl ⟨by kernel_rfl, ?_⟩) hHeld ?_
          · intro w' hSw
            obtain ⟨hc0, hc1, hc2, hc3, hz0, hz1⟩ := hSw
            first | (go_simp; done) | (go_simp; with_reducible rfl) | (go_simp; rw [IntKind.wrap_i64]; omega) | (go_simp; omega)
          simp only [Act.put, List.setIfInBounds_toArray, List.set_cons_zero, List.set_cons_succ]
          refine wpAnyH_ready (rs := [10]) (by kernel_rfl) (by simp) ?_
          refine (AllReadyH.cons rfl (fun KK hK => ?_) AllReadyH.nil)
          have t0 := H7.out.2.1 0
          have d0 := H7.out.2.2 0 _ rfl
          have tz := H7.out.1
          have hst := store_slT
          go_simp
          obtain ⟨v0_11, hv_⟩ : ∃ z, z = v0_10.setCell ⟨g7, 0, none⟩ (.slice bs' nb' bc') := ⟨_, rfl⟩
          rw [← hv_]
          have b5 : Beside g7 v0_10 v0_11 := by rw [hv_]; exact Beside.setCell g7 v0_10 0 _
          have hty : ∃ cur, v0_10.heap[g7]? = some (.cells cur 36 (0, 0)) := H7T.out
          replace H7 : Hid (Blk v0_11 g7 [.slice bs' nb' bc']) := by show Blk _ _ _; rw [hv_]; exact H7.out.set 0 _
          replace HM : Hid (PtKc (g5 + 1) v0_11 (.slice bs' nb' bc') nb' X' Y' K' V') := HM.out.offB b5 hty
          replace HL : Hid (PtKc (g5 + 1) v0_11 (.slice bs nb bc) nb X Y K V) := HL.out.offB b5 hty
          replace HN : Hid (Blk v0_11 gn [.int .i64 P, .slice td nd kd, .slice ts ns ks]) := HN.out.beside b5 (by omega)
          replace HU : Hid (Blk v0_11 gu [.slice none 0 0]) := HU.out.beside b5 (by omega)
          replace HB : Hid (Blk v0_11 g5 [.slice bs nb bc]) := HB.out.beside b5 (by omega)
          have zr_ : r < v0_10.heap.size := by obtain ⟨q_, R_⟩ := HR.out; exact R_.1
          have zs_ : w.heap.size ≤ v0_10.heap.size := HS.out.2.2.2.1
          replace HR : Hid (∃ q, Rd v0_11 r s n c q) := by obtain ⟨q_, R_⟩ := HR.out; exact ⟨q_, Rd.below' R_ (b5.below (by omega) (by omega))⟩
          replace HS : Hid (Beside r w v0_11) := HS.out.onB (b5.below (by omega) zs_)
          clear zr_ zs_
          clear hv_ b5 t0 d0 tz hst hty
          refine hK.out _ _ (⟨HN.out.2.2 0 _ rfl, HN.out.2.2 1 _ rfl, HN.out.2.2 2 _ rfl, HB.out.2.2 0 _ rfl, HN.out.1, HB.out.1⟩) (fun hHeld => ?_)
          clear hK KK
          refine wpAnyH_ready (rs := [11]) (by kernel_rfl) (by simp) ?_
          refine AllReadyH.cons rfl (fun KK hK => ?_) AllReadyH.nil
          go_simp
          refine hK.out _ _ hHeld (fun hHeld => ?_)
          clear hK KK
          refine wpAnyH_done (by kernel_rfl) ?_ _
          clear hHeld
          go_wp2_with fail
          go_meet
          exact ⟨g7, nb', bc', bs', X', Y', K', V', cd, rfl, rfl, z57, nb1, HR, HS, HN, HU, HB, HL, H7, HM, HK'⟩
      clear HR HS HN HU HB HL
      obtain ⟨g7, nb', bc', bs', X', Y', K', V', cd, rfl, rfl, z57, nb1, HR, HS, HN, HU, HB, HL, H7, HM, HK'⟩ := hcut
      rename World => w2
      by_cases hc : cd = 0
      case pos =>
        subst hc
        have f7 := H7.out.2.2 0 _ rfl
        have c5 := HB.out.2.2 0 _ rfl
        have f5 := HB.out.2.1 0
        have hz5 := HB.out.1
        have hst := store_slT
        have bs_ : Beside g5 w2 (w2.setCell ⟨g5, 0, none⟩ (.slice bs' nb' bc')) := Beside.setCell g5 w2 0 _
        have HB2 : Hid (Blk (w2.setCell ⟨g5, 0, none⟩ (.slice bs' nb' bc')) g5 [.slice bs' nb' bc']) := HB.out.set 0 _
        obtain ⟨w3, hw3⟩ : ∃ z, z = w2.setCell ⟨g5, 0, none⟩ (.slice bs' nb' bc') := ⟨_, rfl⟩
        go_upto_region 4 with fail
        try rw [← hw3]
        rw [← hw3] at bs_ HB2
        replace HN : Hid (Blk w3 gn [.int .i64 P, .slice td nd kd, .slice ts ns ks]) := HN.out.beside bs_ (by omega)
        replace HU : Hid (Blk w3 gu [.slice none 0 0]) := HU.out.beside bs_ (by omega)
        replace HM : Hid (PtKc (g5 + 1) w3 (.slice bs' nb' bc') nb' X' Y' K' V') := HM.out.beside bs_ (by omega)
        have zr_ : r < w2.heap.size := by obtain ⟨q_, R_⟩ := HR.out; exact R_.1
        have zs_ : w.heap.size ≤ w2.heap.size := HS.out.2.2.2.1
        replace HR : Hid (∃ q, Rd w3 r s n c q) := by obtain ⟨q_, R_⟩ := HR.out; exact ⟨q_, Rd.below' R_ (bs_.below (by omega) (by omega))⟩
        replace HS : Hid (Beside r w w3) := HS.out.onB (bs_.below (by omega) zs_)
        clear zr_ zs_
        clear hw3 bs_ f7 c5 f5 hz5 HB HL H7
        go_wp2_with fail
        go_roundw
        case rel => exact ⟨k - 1, nb', bc', bs', X', Y', K', V', by go_num, by omega, HR, HS, HN, HU, HB2, HM, HK'⟩
        case measure => simp [intOf]; omega
      case neg =>
        have hcb : (cd == 0) = false := by simpa using hc
        go_wp2_with fail
        go_roundw
        case rel => exact ⟨k - 1, nb, bc, bs, X, Y, K, V, by go_num, by omega, HR, HS, HN, HU, HB, HL, HKb⟩
        case measure => simp [intOf]; omega
    case neg =>
      obtain rfl : k = 0 := by omega
      have HF : Hid (BkF (g5 + 1) wr (.slice bs nb bc) nb X Y K V) := HL.out.f
      clear HL
      go_upto_region 8 with fail
      go_cut [35] (fun v wx => ∃ C : Bool, v = .bool C ∧ (C = true → 0 < nb) ∧ Hid (∃ q, Rd wx r s n c q) ∧ Hid (Beside r w wx) ∧ Hid (Blk wx gn [.int .i64 P, .slice td nd kd, .slice ts ns ks]) ∧ Hid (Blk wx gu [.slice none 0 0]) ∧ Hid (Blk wx g5 [.slice bs nb bc]) ∧ Hid (BkF (g5 + 1) wx (.slice bs nb bc) nb X Y K V))
      case first =>
        obtain ⟨q0, R0⟩ := HR.out
        go_wp2_with fail
        refine (once_any 24 (by omega) (by omega) R0).mono ?_
        rintro e y2 ⟨bo, p5, rfl, R1, b1⟩
        replace HN : Hid (Blk y2 gn [.int .i64 P, .slice td nd kd, .slice ts ns ks]) := HN.out.beside b1 (by omega)
        replace HU : Hid (Blk y2 gu [.slice none 0 0]) := HU.out.beside b1 (by omega)
        replace HB : Hid (Blk y2 g5 [.slice bs nb bc]) := HB.out.beside b1 (by omega)
        replace HF : Hid (BkF (g5 + 1) y2 (.slice bs nb bc) nb X Y K V) := HF.out.beside b1 (by omega)
        replace HS : Hid (Beside r w y2) := HS.out.trans b1
        replace HR : Hid (∃ q, Rd y2 r s n c q) := ⟨_, R1⟩
        clear R0 R1 b1
        cases bo
        case false =>
          go_wp2_with fail
          go_meet
          exact ⟨false, rfl, fun z => (by cases z), HR, HS, HN, HU, HB, HF⟩
        case true =>
          have c5 := HB.out.2.2 0 _ rfl
          have z5_ := HB.out.1
          by_cases hn0 : 0 < nb
          case neg =>
            have hn0i : ¬ (0 : Int) < ((nb : Nat) : Int) := by omega
            go_wp2_with fail
            go_meet
            exact ⟨false, rfl, fun z => (by cases z), HR, HS, HN, HU, HB, HF⟩
          case pos =>
            have hn0i : (0 : Int) < ((nb : Nat) : Int) := by omega
            go_wp2_with fail
            go_meet
            exact ⟨true, rfl, fun _ => hn0, HR, HS, HN, HU, HB, HF⟩
      clear HR HS HN HU HB HF
      obtain ⟨C, rfl, hC, HR, HS, HN, HU, HB, HF⟩ := hcut
      rename World => wp2
      go_upto_if 35 with fail
      go_cut [] (fun wx => ∃ (nb2 bc2 : Nat) (bs2 : Option Addr) (X2 Y2 : Nat → Int) (K2 : Nat → Nat) (V2 : Nat → Nat → Int), nb2 ≤ 6 ∧ Hid (∃ q, Rd wx r s n c q) ∧ Hid (Beside r w wx) ∧ Hid (Blk wx gn [.int .i64 P, .slice td nd kd, .slice ts ns ks]) ∧ Hid (Blk wx gu [.slice none 0 0]) ∧ Hid (Blk wx g5 [.slice bs2 nb2 bc2]) ∧ Hid (BkF (g5 + 1) wx (.slice bs2 nb2 bc2) nb2 X2 Y2 K2 V2) ∧ Hid (∀ i, i < nb2 → K2 i ≤ 70000))
      case first =>
        cases C
        case false =>
          go_wp2_with fail
          go_meet
          exact ⟨nb, bc, bs, X, Y, K, V, by omega, HR, HS, HN, HU, HB, HF, HKb⟩
        case true =>
          have hn0 : 0 < nb := hC rfl
          have hn0i : (0 : Int) < ((nb : Nat) : Int) := by omega
          have c5 := HB.out.2.2 0 _ rfl
          have z5_ := HB.out.1
          go_upto_region 9 with fail
          clear c5 z5_
          obtain ⟨AA, CC, hAC⟩ := HF.out
          have HA : Hid (BkA (g5 + 1) wp2 (.slice bs nb bc) nb X Y K V AA CC) := hAC
          clear HF
          obtain ⟨gp, rfl, zp5, -⟩ := HA.out.at0 hn0
          clear hAC
          refine wp_region_held_drew (S := fun w' => True) (by kernel_rfl) ?_ (fun hHeld => ?_)
          · trivial
          obtain ⟨v0, hv0⟩ : ∃ z, z = wp2.drew := ⟨_, rfl⟩
          try rw [← hv0] at hHeld
          rw [← hv0]
          have bv0 : Below wp2.heap.size wp2 v0 := by rw [hv0]; exact Below.drew (Below.refl _ _)
          clear hv0
          replace HN : Hid (Blk v0 gn [.int .i64 P, .slice td nd kd, .slice ts ns ks]) := HN.out.below bv0
          replace HU : Hid (Blk v0 gu [.slice none 0 0]) := HU.out.below bv0
          replace HB : Hid (Blk v0 g5 [.slice (some ⟨gp, 0, none⟩) nb bc]) := HB.out.below bv0
          replace HA : Hid (BkA (g5 + 1) v0 (.slice (some ⟨gp, 0, none⟩) nb bc) nb X Y K V AA CC) := HA.out.below bv0
          replace HS : Hid (Beside r w v0) := HS.out.trans (Beside.of bv0)
          replace HR : Hid (∃ q, Rd v0 r s n c q) := by obtain ⟨q_, R_⟩ := HR.out; exact ⟨q_, R_.below bv0⟩
          have HBv : Hid (Below v0.heap.size v0 v0) := Below.refl _ _
          clear bv0
          refine wpAnyH_take (i := 0) (v := .pointer (some ⟨g5, 0, none⟩)) rfl (by kernel_rfl) (by kernel_rfl) (by kernel_rfl) (fun _ _ _ h => h) (Or.inl ⟨by kernel_rfl, ?_⟩) hHeld ?_
          · intro w' hSw
            first | (go_simp; done) | (go_simp; with_reducible rfl) | (go_simp; rw [IntKind.wrap_i64]; omega) | (go_simp; omega)
          simp only [Act.put, List.setIfInBounds_toArray, List.set_cons_zero, List.set_cons_succ]
          refine wpAnyH_take (i := 2) (v := .pointer (some ⟨g5, 0, none⟩)) rfl (by kernel_rfl) (by kernel_rfl) (by kernel_rfl) (fun _ _ _ h => h) (Or.inl ⟨by kernel_rfl, ?_⟩) hHeld ?_
          · intro w' hSw
            first | (go_simp; done) | (go_simp; with_reducible rfl) | (go_simp; rw [IntKind.wrap_i64]; omega) | (go_simp; omega)
          simp only [Act.put, List.setIfInBounds_toArray, List.set_cons_zero, List.set_cons_succ]
          refine wpAnyH_ready (rs := [1, 3]) (by kernel_rfl) (by simp) ?_
          refine (AllReadyH.cons rfl (fun KK hK => ?_) (AllReadyH.cons rfl (fun KK hK => ?_) AllReadyH.nil))
          · have c_ := (HBv.out.cell (p := ⟨g5, 0, none⟩) HB.out.1).trans (HB.out.2.2 0 _ rfl)
            have z_ := Nat.lt_of_lt_of_le HB.out.1 HBv.out.size
            go_simp
            clear c_ z_
            refine hK.out _ _ (trivial) (fun hHeld => ?_)
            clear hK KK
            refine wpAnyH_ready (rs := [3]) (by kernel_rfl) (by simp) ?_
            refine (AllReadyH.cons rfl (fun KK hK => ?_) AllReadyH.nil)
            have c_ := (HBv.out.cell (p := ⟨g5, 0, none⟩) HB.out.1).trans (HB.out.2.2 0 _ rfl)
            have z_ := Nat.lt_of_lt_of_le HB.out.1 HBv.out.size
            go_simp
            clear c_ z_
            refine hK.out _ _ (trivial) (fun hHeld => ?_)
            clear hK KK
            refine wpAnyH_take (i := 4) (v := .pointer (some ⟨gp, 0, none⟩)) rfl (by kernel_rfl) (by kernel_rfl) (by kernel_rfl) (fun _ _ _ h => h) (Or.inl ⟨by kernel_rfl, ?_⟩) hHeld ?_
            · intro w' hSw
              first | (go_simp; done) | (go_simp; with_reducible rfl) | (go_simp; rw [IntKind.wrap_i64]; omega) | (go_simp; omega)
            simp only [Act.put, List.setIfInBounds_toArray, List.set_cons_zero, List.set_cons_succ]
            refine wpAnyH_ready (rs := [5]) (by kernel_rfl) (by simp) ?_
            refine (AllReadyH.cons rfl (fun KK hK => ?_) AllReadyH.nil)
            obtain ⟨_, eg, -, zg_, -, a0_, a1_, a2_⟩ := HA.out.at0 hn0
            cases eg
            have c0_ := (HBv.out.cell (p := ⟨gp, 0, none⟩) zg_).trans a0_
            have c1_ := (HBv.out.cell (p := ⟨gp, 1, none⟩) zg_).trans a1_
            have c2_ := (HBv.out.cell (p := ⟨gp, 2, none⟩) zg_).trans a2_
            have z_ := Nat.lt_of_lt_of_le zg_ HBv.out.size
            go_simp
            clear zg_ a0_ a1_ a2_ c0_ c1_ c2_ z_
            refine hK.out _ _ (trivial) (fun hHeld => ?_)
            clear hK KK
            refine wpAnyH_ready (rs := [6]) (by kernel_rfl) (by simp) ?_
            refine (AllReadyH.cons rfl (fun KK hK => ?_) AllReadyH.nil)
            go_simp
            obtain ⟨v0_4, hv_⟩ : ∃ z, z = v0.alloc (.cells #[.int .i64 (X 0), .int .i64 (Y 0), .slice (AA 0) (K 0) (CC 0)] 44) := ⟨_, rfl⟩
            rw [← hv_]
            obtain ⟨lb, hlb⟩ : ∃ z, z = v0.heap.size := ⟨_, rfl⟩
            have HNEW : Hid (∀ j u, [Value.int .i64 (X 0), .int .i64 (Y 0), .slice (AA 0) (K 0) (CC 0)][j]? = some u → v0_4.cell? ((⟨lb, 0, none⟩ : Addr).add j) = some u) := by rw [hv_, hlb]; exact newsThreeP v0 _ _ _ _
            have b_ : Below v0.heap.size v0 v0_4 := by rw [hv_]; exact below0 _ _
            replace HBv : Hid (Below v0.heap.size v0 v0_4) := HBv.out.trans (b_.mono HBv.out.size)
            try rw [← hlb]
            clear hv_ hlb b_
            refine hK.out _ _ (trivial) (fun hHeld => ?_)
            clear hK KK
            refine wpAnyH_ready (rs := [7]) (by kernel_rfl) (by simp) ?_
            refine (AllReadyH.cons rfl (fun KK hK => ?_) AllReadyH.nil)
            obtain ⟨i0, hi, hz0, hz1, hz2⟩ := info_parts info_PermitP
            have HAw : Hid (BkA (g5 + 1) v0_4 (.slice (some ⟨gp, 0, none⟩) nb bc) nb X Y K V AA CC) := HA.out.below HBv.out
            have zb_ : g5 + 1 ≤ v0_4.heap.size := by have := HB.out.1; have := HBv.out.size; omega
            have HRw : Hid (∃ q, Rd v0_4 r s n c q) := by obtain ⟨q_, R_⟩ := HR.out; exact ⟨q_, R_.below HBv.out⟩
            have HSw : Hid (Beside r w v0_4) := HS.out.trans (Beside.of HBv.out)
            refine wp_append_lies _ (.tmp 37) (.tmp 42) 34 (by rfl) (g5 + 1) 44 i0 (.agg #[.int .i64 0, .int .i64 0, .slice none 0 0]) 3 40 Try.underlying34 hi hz0 hz1 hz2 rfl (by decide) (.slice (some ⟨gp, 0, none⟩) nb bc) nb _ (by rfl) HAw.out.1 ⟨lb, 0, none⟩ 1 1 [.int .i64 (X 0), .int .i64 (Y 0), .slice (AA 0) (K 0) (CC 0)] (by rfl) rfl HNEW.out (by intro u hu; simp at hu; rcases hu with rfl | rfl | rfl <;> rfl) (by decide) (by unfold maxLen; omega) (by omega) zb_ _ rfl ?_
            intro g9 cap9 v0_5 hown9 hgrow9 _ _
            have HD9 : Hid (BkF (g5 + 1) v0_5 (.slice (some ⟨g9, 0, none⟩) (nb + 1) cap9) (nb + 1) (atF nb (X 0) X) (atF nb (Y 0) Y) (atF nb (K 0) K) (atF nb (V 0) V)) := bk_dup hn0 HAw.out.1 HAw.out.2 hown9 hgrow9
            have b9 : Below (g5 + 1) v0_4 v0_5 := grown_below hgrow9 zb_ (own_block HAw.out.1)
            replace HN : Hid (Blk v0_5 gn [.int .i64 P, .slice td nd kd, .slice ts ns ks]) := (HN.out.below HBv.out).belowB b9 (by omega)
            replace HU : Hid (Blk v0_5 gu [.slice none 0 0]) := (HU.out.below HBv.out).belowB b9 (by omega)
            replace HB : Hid (Blk v0_5 g5 [.slice (some ⟨gp, 0, none⟩) nb bc]) := (HB.out.below HBv.out).belowB b9 (by omega)
            replace HR : Hid (∃ q, Rd v0_5 r s n c q) := by obtain ⟨q_, R_⟩ := HRw.out; exact ⟨q_, Rd.below' R_ (b9.mono (by omega))⟩
            replace HS : Hid (Beside r w v0_5) := HSw.out.onB (b9.mono (by omega))
            clear hown9 hgrow9 b9 HAw zb_ HRw HSw hi hz0 hz1 hz2 HNEW
            go_simp
            refine hK.out _ _ (trivial) (fun hHeld => ?_)
            clear hK KK
            refine wpAnyH_take (i := 8) (v := .pointer (some ⟨g5, 0, none⟩)) rfl (by kernel_rfl) (by kernel_rfl) (by kernel_rfl) (fun _ _ _ h => h) (Or.inl ⟨by kernel_rfl, ?_⟩) hHeld ?_
            · intro w' hSw
              first | (go_simp; done) | (go_simp; with_reducible rfl) | (go_simp; rw [IntKind.wrap_i64]; omega) | (go_simp; omega)
            simp only [Act.put, List.setIfInBounds_toArray, List.set_cons_zero, List.set_cons_succ]
            refine wpAnyH_ready (rs := [9]) (by kernel_rfl) (by simp) ?_
            refine (AllReadyH.cons rfl (fun KK hK => ?_) AllReadyH.nil)
            have t0 := HB.out.2.1 0
            have d0 := HB.out.2.2 0 _ rfl
            have tz := HB.out.1
            have hst := store_slT
            go_simp
            obtain ⟨v0_6, hv_⟩ : ∃ z, z = v0_5.setCell ⟨g5, 0, none⟩ (.slice (some ⟨g9, 0, none⟩) (nb + 1) cap9) := ⟨_, rfl⟩
            rw [← hv_]
            have b5 : Beside g5 v0_5 v0_6 := by rw [hv_]; exact Beside.setCell g5 v0_5 0 _
            replace HB : Hid (Blk v0_6 g5 [.slice (some ⟨g9, 0, none⟩) (nb + 1) cap9]) := by show Blk _ _ _; rw [hv_]; exact HB.out.set 0 _
            replace HN : Hid (Blk v0_6 gn [.int .i64 P, .slice td nd kd, .slice ts ns ks]) := HN.out.beside b5 (by omega)
            replace HU : Hid (Blk v0_6 gu [.slice none 0 0]) := HU.out.beside b5 (by omega)
            replace HD9 : Hid (BkF (g5 + 1) v0_6 (.slice (some ⟨g9, 0, none⟩) (nb + 1) cap9) (nb + 1) (atF nb (X 0) X) (atF nb (Y 0) Y) (atF nb (K 0) K) (atF nb (V 0) V)) := HD9.out.beside b5 (by omega)
            have zr_ : r < v0_5.heap.size := by obtain ⟨q_, R_⟩ := HR.out; exact R_.1
            have zs_ : w.heap.size ≤ v0_5.heap.size := HS.out.2.2.2.1
            replace HR : Hid (∃ q, Rd v0_6 r s n c q) := by obtain ⟨q_, R_⟩ := HR.out; exact ⟨q_, Rd.below' R_ (b5.below (by omega) (by omega))⟩
            replace HS : Hid (Beside r w v0_6) := HS.out.onB (b5.below (by omega) zs_)
            clear zr_ zs_
            clear hv_ b5 t0 d0 tz hst
            refine hK.out _ _ (trivial) (fun hHeld => ?_)
            clear hK KK
            refine wpAnyH_done (by kernel_rfl) ?_ _
            clear hHeld
            have HKb2 : Hid (∀ i, i < nb + 1 → atF nb (K 0) K i ≤ 70000) := fun i hi => by
              unfold atF
              split
              · exact HKb.out 0 hn0
              · exact HKb.out i (by omega)
            go_wp2_with fail
            go_meet
            exact ⟨nb + 1, cap9, some ⟨g9, 0, none⟩, _, _, _, _, by omega, HR, HS, HN, HU, HB, HD9, HKb2⟩
          · have c_ := (HBv.out.cell (p := ⟨g5, 0, none⟩) HB.out.1).trans (HB.out.2.2 0 _ rfl)
            have z_ := Nat.lt_of_lt_of_le HB.out.1 HBv.out.size
            go_simp
            clear c_ z_
            refine hK.out _ _ (trivial) (fun hHeld => ?_)
            clear hK KK
            refine wpAnyH_take (i := 4) (v := .pointer (some ⟨gp, 0, none⟩)) rfl (by kernel_rfl) (by kernel_rfl) (by kernel_rfl) (fun _ _ _ h => h) (Or.inl ⟨by kernel_rfl, ?_⟩) hHeld ?_
            · intro w' hSw
              first | (go_simp; done) | (go_simp; with_reducible rfl) | (go_simp; rw [IntKind.wrap_i64]; omega) | (go_simp; omega)
            simp only [Act.put, List.setIfInBounds_toArray, List.set_cons_zero, List.set_cons_succ]
            refine wpAnyH_ready (rs := [1, 5]) (by kernel_rfl) (by simp) ?_
            refine (AllReadyH.cons rfl (fun KK hK => ?_) (AllReadyH.cons rfl (fun KK hK => ?_) AllReadyH.nil))
            · have c_ := (HBv.out.cell (p := ⟨g5, 0, none⟩) HB.out.1).trans (HB.out.2.2 0 _ rfl)
              have z_ := Nat.lt_of_lt_of_le HB.out.1 HBv.out.size
              go_simp
              clear c_ z_
              refine hK.out _ _ (trivial) (fun hHeld => ?_)
              clear hK KK
              refine wpAnyH_ready (rs := [5]) (by kernel_rfl) (by simp) ?_
              refine (AllReadyH.cons rfl (fun KK hK => ?_) AllReadyH.nil)
              obtain ⟨_, eg, -, zg_, -, a0_, a1_, a2_⟩ := HA.out.at0 hn0
              cases eg
              have c0_ := (HBv.out.cell (p := ⟨gp, 0, none⟩) zg_).trans a0_
              have c1_ := (HBv.out.cell (p := ⟨gp, 1, none⟩) zg_).trans a1_
              have c2_ := (HBv.out.cell (p := ⟨gp, 2, none⟩) zg_).trans a2_
              have z_ := Nat.lt_of_lt_of_le zg_ HBv.out.size
              go_simp
              clear zg_ a0_ a1_ a2_ c0_ c1_ c2_ z_
              refine hK.out _ _ (trivial) (fun hHeld => ?_)
              clear hK KK
              refine wpAnyH_ready (rs := [6]) (by kernel_rfl) (by simp) ?_
              refine (AllReadyH.cons rfl (fun KK hK => ?_) AllReadyH.nil)
              go_simp
              obtain ⟨v0_10, hv_⟩ : ∃ z, z = v0.alloc (.cells #[.int .i64 (X 0), .int .i64 (Y 0), .slice (AA 0) (K 0) (CC 0)] 44) := ⟨_, rfl⟩
              rw [← hv_]
              obtain ⟨lb, hlb⟩ : ∃ z, z = v0.heap.size := ⟨_, rfl⟩
              have HNEW : Hid (∀ j u, [Value.int .i64 (X 0), .int .i64 (Y 0), .slice (AA 0) (K 0) (CC 0)][j]? = some u → v0_10.cell? ((⟨lb, 0, none⟩ : Addr).add j) = some u) := by rw [hv_, hlb]; exact newsThreeP v0 _ _ _ _
              have b_ : Below v0.heap.size v0 v0_10 := by rw [hv_]; exact below0 _ _
              replace HBv : Hid (Below v0.heap.size v0 v0_10) := HBv.out.trans (b_.mono HBv.out.size)
              try rw [← hlb]
              clear hv_ hlb b_
              refine hK.out _ _ (trivial) (fun hHeld => ?_)
              clear hK KK
              refine wpAnyH_ready (rs := [7]) (by kernel_rfl) (by simp) ?_
              refine (AllReadyH.cons rfl (fun KK hK => ?_) AllReadyH.nil)
              obtain ⟨i0, hi, hz0, hz1, hz2⟩ := info_parts info_PermitP
              have HAw : Hid (BkA (g5 + 1) v0_10 (.slice (some ⟨gp, 0, none⟩) nb bc) nb X Y K V AA CC) := HA.out.below HBv.out
              have zb_ : g5 + 1 ≤ v0_10.heap.size := by have := HB.out.1; have := HBv.out.size; omega
              have HRw : Hid (∃ q, Rd v0_10 r s n c q) := by obtain ⟨q_, R_⟩ := HR.out; exact ⟨q_, R_.below HBv.out⟩
              have HSw : Hid (Beside r w v0_10) := HS.out.trans (Beside.of HBv.out)
              refine wp_append_lies _ (.tmp 37) (.tmp 42) 34 (by rfl) (g5 + 1) 44 i0 (.agg #[.int .i64 0, .int .i64 0, .slice none 0 0]) 3 40 Try.underlying34 hi hz0 hz1 hz2 rfl (by decide) (.slice (some ⟨gp, 0, none⟩) nb bc) nb _ (by rfl) HAw.out.1 ⟨lb, 0, none⟩ 1 1 [.int .i64 (X 0), .int .i64 (Y 0), .slice (AA 0) (K 0) (CC 0)] (by rfl) rfl HNEW.out (by intro u hu; simp at hu; rcases hu with rfl | rfl | rfl <;> rfl) (by decide) (by unfold maxLen; omega) (by omega) zb_ _ rfl ?_
              intro g9 cap9 v0_11 hown9 hgrow9 _ _
              have HD9 : Hid (BkF (g5 + 1) v0_11 (.slice (some ⟨g9, 0, none⟩) (nb + 1) cap9) (nb + 1) (atF nb (X 0) X) (atF nb (Y 0) Y) (atF nb (K 0) K) (atF nb (V 0) V)) := bk_dup hn0 HAw.out.1 HAw.out.2 hown9 hgrow9
              have b9 : Below (g5 + 1) v0_10 v0_11 := grown_below hgrow9 zb_ (own_block HAw.out.1)
              replace HN : Hid (Blk v0_11 gn [.int .i64 P, .slice td nd kd, .slice ts ns ks]) := (HN.out.below HBv.out).belowB b9 (by omega)
              replace HU : Hid (Blk v0_11 gu [.slice none 0 0]) := (HU.out.below HBv.out).belowB b9 (by omega)
              replace HB : Hid (Blk v0_11 g5 [.slice (some ⟨gp, 0, none⟩) nb bc]) := (HB.out.below HBv.out).belowB b9 (by omega)
              replace HR : Hid (∃ q, Rd v0_11 r s n c q) := by obtain ⟨q_, R_⟩ := HRw.out; exact ⟨q_, Rd.below' R_ (b9.mono (by omega))⟩
              replace HS : Hid (Beside r w v0_11) := HSw.out.onB (b9.mono (by omega))
              clear hown9 hgrow9 b9 HAw zb_ HRw HSw hi hz0 hz1 hz2 HNEW
              go_simp
              refine hK.out _ _ (trivial) (fun hHeld => ?_)
              clear hK KK
              refine wpAnyH_take (i := 8) (v := .pointer (some ⟨g5, 0, none⟩)) rfl (by kernel_rfl) (by kernel_rfl) (by kernel_rfl) (fun _ _ _ h => h) (Or.inl ⟨by kernel_rfl, ?_⟩) hHeld ?_
              · intro w' hSw
                first | (go_simp; done) | (go_simp; with_reducible rfl) | (go_simp; rw [IntKind.wrap_i64]; omega) | (go_simp; omega)
              simp only [Act.put, List.setIfInBounds_toArray, List.set_cons_zero, List.set_cons_succ]
              refine wpAnyH_ready (rs := [9]) (by kernel_rfl) (by simp) ?_
              refine (AllReadyH.cons rfl (fun KK hK => ?_) AllReadyH.nil)
              have t0 := HB.out.2.1 0
              have d0 := HB.out.2.2 0 _ rfl
              have tz := HB.out.1
              have hst := store_slT
              go_simp
              obtain ⟨v0_12, hv_⟩ : ∃ z, z = v0_11.setCell ⟨g5, 0, none⟩ (.slice (some ⟨g9, 0, none⟩) (nb + 1) cap9) := ⟨_, rfl⟩
              rw [← hv_]
              have b5 : Beside g5 v0_11 v0_12 := by rw [hv_]; exact Beside.setCell g5 v0_11 0 _
              replace HB : Hid (Blk v0_12 g5 [.slice (some ⟨g9, 0, none⟩) (nb + 1) cap9]) := by show Blk _ _ _; rw [hv_]; exact HB.out.set 0 _
              replace HN : Hid (Blk v0_12 gn [.int .i64 P, .slice td nd kd, .slice ts ns ks]) := HN.out.beside b5 (by omega)
              replace HU : Hid (Blk v0_12 gu [.slice none 0 0]) := HU.out.beside b5 (by omega)
              replace HD9 : Hid (BkF (g5 + 1) v0_12 (.slice (some ⟨g9, 0, none⟩) (nb + 1) cap9) (nb + 1) (atF nb (X 0) X) (atF nb (Y 0) Y) (atF nb (K 0) K) (atF nb (V 0) V)) := HD9.out.beside b5 (by omega)
              have zr_ : r < v0_11.heap.size := by obtain ⟨q_, R_⟩ := HR.out; exact R_.1
              have zs_ : w.heap.size ≤ v0_11.heap.size := HS.out.2.2.2.1
              replace HR : Hid (∃ q, Rd v0_12 r s n c q) := by obtain ⟨q_, R_⟩ := HR.out; exact ⟨q_, Rd.below' R_ (b5.below (by omega) (by omega))⟩
              replace HS : Hid (Beside r w v0_12) := HS.out.onB (b5.below (by omega) zs_)
              clear zr_ zs_
              clear hv_ b5 t0 d0 tz hst
              refine hK.out _ _ (trivial) (fun hHeld => ?_)
              clear hK KK
              refine wpAnyH_done (by kernel_rfl) ?_ _
              clear hHeld
              have HKb2 : Hid (∀ i, i < nb + 1 → atF nb (K 0) K i ≤ 70000) := fun i hi => by
                unfold atF
                split
                · exact HKb.out 0 hn0
                · exact HKb.out i (by omega)
              go_wp2_with fail
              go_meet
              exact ⟨nb + 1, cap9, some ⟨g9, 0, none⟩, _, _, _, _, by omega, HR, HS, HN, HU, HB, HD9, HKb2⟩
            · obtain ⟨_, eg, -, zg_, -, a0_, a1_, a2_⟩ := HA.out.at0 hn0
              cases eg
              have c0_ := (HBv.out.cell (p := ⟨gp, 0, none⟩) zg_).trans a0_
              have c1_ := (HBv.out.cell (p := ⟨gp, 1, none⟩) zg_).trans a1_
              have c2_ := (HBv.out.cell (p := ⟨gp, 2, none⟩) zg_).trans a2_
              have z_ := Nat.lt_of_lt_of_le zg_ HBv.out.size
              go_simp
              clear zg_ a0_ a1_ a2_ c0_ c1_ c2_ z_
              refine hK.out _ _ (trivial) (fun hHeld => ?_)
              clear hK KK
              refine wpAnyH_ready (rs := [1, 6]) (by kernel_rfl) (by simp) ?_
              refine (AllReadyH.cons rfl (fun KK hK => ?_) (AllReadyH.cons rfl (fun KK hK => ?_) AllReadyH.nil))
              · have c_ := (HBv.out.cell (p := ⟨g5, 0, none⟩) HB.out.1).trans (HB.out.2.2 0 _ rfl)
                have z_ := Nat.lt_of_lt_of_le HB.out.1 HBv.out.size
                go_simp
                clear c_ z_
                refine hK.out _ _ (trivial) (fun hHeld => ?_)
                clear hK KK
                refine wpAnyH_ready (rs := [6]) (by kernel_rfl) (by simp) ?_
                refine (AllReadyH.cons rfl (fun KK hK => ?_) AllReadyH.nil)
                go_simp
                obtain ⟨v0_15, hv_⟩ : ∃ z, z = v0.alloc (.cells #[.int .i64 (X 0), .int .i64 (Y 0), .slice (AA 0) (K 0) (CC 0)] 44) := ⟨_, rfl⟩
                rw [← hv_]
                obtain ⟨lb, hlb⟩ : ∃ z, z = v0.heap.size := ⟨_, rfl⟩
                have HNEW : Hid (∀ j u, [Value.int .i64 (X 0), .int .i64 (Y 0), .slice (AA 0) (K 0) (CC 0)][j]? = some u → v0_15.cell? ((⟨lb, 0, none⟩ : Addr).add j) = some u) := by rw [hv_, hlb]; exact newsThreeP v0 _ _ _ _
                have b_ : Below v0.heap.size v0 v0_15 := by rw [hv_]; exact below0 _ _
                replace HBv : Hid (Below v0.heap.size v0 v0_15) := HBv.out.trans (b_.mono HBv.out.size)
                try rw [← hlb]
                clear hv_ hlb b_
                refine hK.out _ _ (trivial) (fun hHeld => ?_)
                clear hK KK
                refine wpAnyH_ready (rs := [7]) (by kernel_rfl) (by simp) ?_
                refine (AllReadyH.cons rfl (fun KK hK => ?_) AllReadyH.nil)
                obtain ⟨i0, hi, hz0, hz1, hz2⟩ := info_parts info_PermitP
                have HAw : Hid (BkA (g5 + 1) v0_15 (.slice (some ⟨gp, 0, none⟩) nb bc) nb X Y K V AA CC) := HA.out.below HBv.out
                have zb_ : g5 + 1 ≤ v0_15.heap.size := by have := HB.out.1; have := HBv.out.size; omega
                have HRw : Hid (∃ q, Rd v0_15 r s n c q) := by obtain ⟨q_, R_⟩ := HR.out; exact ⟨q_, R_.below HBv.out⟩
                have HSw : Hid (Beside r w v0_15) := HS.out.trans (Beside.of HBv.out)
                refine wp_append_lies _ (.tmp 37) (.tmp 42) 34 (by rfl) (g5 + 1) 44 i0 (.agg #[.int .i64 0, .int .i64 0, .slice none 0 0]) 3 40 Try.underlying34 hi hz0 hz1 hz2 rfl (by decide) (.slice (some ⟨gp, 0, none⟩) nb bc) nb _ (by rfl) HAw.out.1 ⟨lb, 0, none⟩ 1 1 [.int .i64 (X 0), .int .i64 (Y 0), .slice (AA 0) (K 0) (CC 0)] (by rfl) rfl HNEW.out (by intro u hu; simp at hu; rcases hu with rfl | rfl | rfl <;> rfl) (by decide) (by unfold maxLen; omega) (by omega) zb_ _ rfl ?_
                intro g9 cap9 v0_16 hown9 hgrow9 _ _
                have HD9 : Hid (BkF (g5 + 1) v0_16 (.slice (some ⟨g9, 0, none⟩) (nb + 1) cap9) (nb + 1) (atF nb (X 0) X) (atF nb (Y 0) Y) (atF nb (K 0) K) (atF nb (V 0) V)) := bk_dup hn0 HAw.out.1 HAw.out.2 hown9 hgrow9
                have b9 : Below (g5 + 1) v0_15 v0_16 := grown_below hgrow9 zb_ (own_block HAw.out.1)
                replace HN : Hid (Blk v0_16 gn [.int .i64 P, .slice td nd kd, .slice ts ns ks]) := (HN.out.below HBv.out).belowB b9 (by omega)
                replace HU : Hid (Blk v0_16 gu [.slice none 0 0]) := (HU.out.below HBv.out).belowB b9 (by omega)
                replace HB : Hid (Blk v0_16 g5 [.slice (some ⟨gp, 0, none⟩) nb bc]) := (HB.out.below HBv.out).belowB b9 (by omega)
                replace HR : Hid (∃ q, Rd v0_16 r s n c q) := by obtain ⟨q_, R_⟩ := HRw.out; exact ⟨q_, Rd.below' R_ (b9.mono (by omega))⟩
                replace HS : Hid (Beside r w v0_16) := HSw.out.onB (b9.mono (by omega))
                clear hown9 hgrow9 b9 HAw zb_ HRw HSw hi hz0 hz1 hz2 HNEW
                go_simp
                refine hK.out _ _ (trivial) (fun hHeld => ?_)
                clear hK KK
                refine wpAnyH_take (i := 8) (v := .pointer (some ⟨g5, 0, none⟩)) rfl (by kernel_rfl) (by kernel_rfl) (by kernel_rfl) (fun _ _ _ h => h) (Or.inl ⟨by kernel_rfl, ?_⟩) hHeld ?_
                · intro w' hSw
                  first | (go_simp; done) | (go_simp; with_reducible rfl) | (go_simp; rw [IntKind.wrap_i64]; omega) | (go_simp; omega)
                simp only [Act.put, List.setIfInBounds_toArray, List.set_cons_zero, List.set_cons_succ]
                refine wpAnyH_ready (rs := [9]) (by kernel_rfl) (by simp) ?_
                refine (AllReadyH.cons rfl (fun KK hK => ?_) AllReadyH.nil)
                have t0 := HB.out.2.1 0
                have d0 := HB.out.2.2 0 _ rfl
                have tz := HB.out.1
                have hst := store_slT
                go_simp
                obtain ⟨v0_17, hv_⟩ : ∃ z, z = v0_16.setCell ⟨g5, 0, none⟩ (.slice (some ⟨g9, 0, none⟩) (nb + 1) cap9) := ⟨_, rfl⟩
                rw [← hv_]
                have b5 : Beside g5 v0_16 v0_17 := by rw [hv_]; exact Beside.setCell g5 v0_16 0 _
                replace HB : Hid (Blk v0_17 g5 [.slice (some ⟨g9, 0, none⟩) (nb + 1) cap9]) := by show Blk _ _ _; rw [hv_]; exact HB.out.set 0 _
                replace HN : Hid (Blk v0_17 gn [.int .i64 P, .slice td nd kd, .slice ts ns ks]) := HN.out.beside b5 (by omega)
                replace HU : Hid (Blk v0_17 gu [.slice none 0 0]) := HU.out.beside b5 (by omega)
                replace HD9 : Hid (BkF (g5 + 1) v0_17 (.slice (some ⟨g9, 0, none⟩) (nb + 1) cap9) (nb + 1) (atF nb (X 0) X) (atF nb (Y 0) Y) (atF nb (K 0) K) (atF nb (V 0) V)) := HD9.out.beside b5 (by omega)
                have zr_ : r < v0_16.heap.size := by obtain ⟨q_, R_⟩ := HR.out; exact R_.1
                have zs_ : w.heap.size ≤ v0_16.heap.size := HS.out.2.2.2.1
                replace HR : Hid (∃ q, Rd v0_17 r s n c q) := by obtain ⟨q_, R_⟩ := HR.out; exact ⟨q_, Rd.below' R_ (b5.below (by omega) (by omega))⟩
                replace HS : Hid (Beside r w v0_17) := HS.out.onB (b5.below (by omega) zs_)
                clear zr_ zs_
                clear hv_ b5 t0 d0 tz hst
                refine hK.out _ _ (trivial) (fun hHeld => ?_)
                clear hK KK
                refine wpAnyH_done (by kernel_rfl) ?_ _
                clear hHeld
                have HKb2 : Hid (∀ i, i < nb + 1 → atF nb (K 0) K i ≤ 70000) := fun i hi => by
                  unfold atF
                  split
                  · exact HKb.out 0 hn0
                  · exact HKb.out i (by omega)
                go_wp2_with fail
                go_meet
                exact ⟨nb + 1, cap9, some ⟨g9, 0, none⟩, _, _, _, _, by omega, HR, HS, HN, HU, HB, HD9, HKb2⟩
              · go_simp
                obtain ⟨v0_18, hv_⟩ : ∃ z, z = v0.alloc (.cells #[.int .i64 (X 0), .int .i64 (Y 0), .slice (AA 0) (K 0) (CC 0)] 44) := ⟨_, rfl⟩
                rw [← hv_]
                obtain ⟨lb, hlb⟩ : ∃ z, z = v0.heap.size := ⟨_, rfl⟩
                have HNEW : Hid (∀ j u, [Value.int .i64 (X 0), .int .i64 (Y 0), .slice (AA 0) (K 0) (CC 0)][j]? = some u → v0_18.cell? ((⟨lb, 0, none⟩ : Addr).add j) = some u) := by rw [hv_, hlb]; exact newsThreeP v0 _ _ _ _
                have b_ : Below v0.heap.size v0 v0_18 := by rw [hv_]; exact below0 _ _
                replace HBv : Hid (Below v0.heap.size v0 v0_18) := HBv.out.trans (b_.mono HBv.out.size)
                try rw [← hlb]
                clear hv_ hlb b_
                refine hK.out _ _ (trivial) (fun hHeld => ?_)
                clear hK KK
                refine wpAnyH_ready (rs := [1]) (by kernel_rfl) (by simp) ?_
                refine (AllReadyH.cons rfl (fun KK hK => ?_) AllReadyH.nil)
                have c_ := (HBv.out.cell (p := ⟨g5, 0, none⟩) HB.out.1).trans (HB.out.2.2 0 _ rfl)
                have z_ := Nat.lt_of_lt_of_le HB.out.1 HBv.out.size
                go_simp
                clear c_ z_
                refine hK.out _ _ (trivial) (fun hHeld => ?_)
                clear hK KK
                refine wpAnyH_ready (rs := [7]) (by kernel_rfl) (by simp) ?_
                refine (AllReadyH.cons rfl (fun KK hK => ?_) AllReadyH.nil)
                obtain ⟨i0, hi, hz0, hz1, hz2⟩ := info_parts info_PermitP
                have HAw : Hid (BkA (g5 + 1) v0_18 (.slice (some ⟨gp, 0, none⟩) nb bc) nb X Y K V AA CC) := HA.out.below HBv.out
                have zb_ : g5 + 1 ≤ v0_18.heap.size := by have := HB.out.1; have := HBv.out.size; omega
                have HRw : Hid (∃ q, Rd v0_18 r s n c q) := by obtain ⟨q_, R_⟩ := HR.out; exact ⟨q_, R_.below HBv.out⟩
                have HSw : Hid (Beside r w v0_18) := HS.out.trans (Beside.of HBv.out)
                refine wp_append_lies _ (.tmp 37) (.tmp 42) 34 (by rfl) (g5 + 1) 44 i0 (.agg #[.int .i64 0, .int .i64 0, .slice none 0 0]) 3 40 Try.underlying34 hi hz0 hz1 hz2 rfl (by decide) (.slice (some ⟨gp, 0, none⟩) nb bc) nb _ (by rfl) HAw.out.1 ⟨lb, 0, none⟩ 1 1 [.int .i64 (X 0), .int .i64 (Y 0), .slice (AA 0) (K 0) (CC 0)] (by rfl) rfl HNEW.out (by intro u hu; simp at hu; rcases hu with rfl | rfl | rfl <;> rfl) (by decide) (by unfold maxLen; omega) (by omega) zb_ _ rfl ?_
                intro g9 cap9 v0_20 hown9 hgrow9 _ _
                have HD9 : Hid (BkF (g5 + 1) v0_20 (.slice (some ⟨g9, 0, none⟩) (nb + 1) cap9) (nb + 1) (atF nb (X 0) X) (atF nb (Y 0) Y) (atF nb (K 0) K) (atF nb (V 0) V)) := bk_dup hn0 HAw.out.1 HAw.out.2 hown9 hgrow9
                have b9 : Below (g5 + 1) v0_18 v0_20 := grown_below hgrow9 zb_ (own_block HAw.out.1)
                replace HN : Hid (Blk v0_20 gn [.int .i64 P, .slice td nd kd, .slice ts ns ks]) := (HN.out.below HBv.out).belowB b9 (by omega)
                replace HU : Hid (Blk v0_20 gu [.slice none 0 0]) := (HU.out.below HBv.out).belowB b9 (by omega)
                replace HB : Hid (Blk v0_20 g5 [.slice (some ⟨gp, 0, none⟩) nb bc]) := (HB.out.below HBv.out).belowB b9 (by omega)
                replace HR : Hid (∃ q, Rd v0_20 r s n c q) := by obtain ⟨q_, R_⟩ := HRw.out; exact ⟨q_, Rd.below' R_ (b9.mono (by omega))⟩
                replace HS : Hid (Beside r w v0_20) := HSw.out.onB (b9.mono (by omega))
                clear hown9 hgrow9 b9 HAw zb_ HRw HSw hi hz0 hz1 hz2 HNEW
                go_simp
                refine hK.out _ _ (trivial) (fun hHeld => ?_)
                clear hK KK
                refine wpAnyH_take (i := 8) (v := .pointer (some ⟨g5, 0, none⟩)) rfl (by kernel_rfl) (by kernel_rfl) (by kernel_rfl) (fun _ _ _ h => h) (Or.inl ⟨by kernel_rfl, ?_⟩) hHeld ?_
                · intro w' hSw
                  first | (go_simp; done) | (go_simp; with_reducible rfl) | (go_simp; rw [IntKind.wrap_i64]; omega) | (go_simp; omega)
                simp only [Act.put, List.setIfInBounds_toArray, List.set_cons_zero, List.set_cons_succ]
                refine wpAnyH_ready (rs := [9]) (by kernel_rfl) (by simp) ?_
                refine (AllReadyH.cons rfl (fun KK hK => ?_) AllReadyH.nil)
                have t0 := HB.out.2.1 0
                have d0 := HB.out.2.2 0 _ rfl
                have tz := HB.out.1
                have hst := store_slT
                go_simp
                obtain ⟨v0_21, hv_⟩ : ∃ z, z = v0_20.setCell ⟨g5, 0, none⟩ (.slice (some ⟨g9, 0, none⟩) (nb + 1) cap9) := ⟨_, rfl⟩
                rw [← hv_]
                have b5 : Beside g5 v0_20 v0_21 := by rw [hv_]; exact Beside.setCell g5 v0_20 0 _
                replace HB : Hid (Blk v0_21 g5 [.slice (some ⟨g9, 0, none⟩) (nb + 1) cap9]) := by show Blk _ _ _; rw [hv_]; exact HB.out.set 0 _
                replace HN : Hid (Blk v0_21 gn [.int .i64 P, .slice td nd kd, .slice ts ns ks]) := HN.out.beside b5 (by omega)
                replace HU : Hid (Blk v0_21 gu [.slice none 0 0]) := HU.out.beside b5 (by omega)
                replace HD9 : Hid (BkF (g5 + 1) v0_21 (.slice (some ⟨g9, 0, none⟩) (nb + 1) cap9) (nb + 1) (atF nb (X 0) X) (atF nb (Y 0) Y) (atF nb (K 0) K) (atF nb (V 0) V)) := HD9.out.beside b5 (by omega)
                have zr_ : r < v0_20.heap.size := by obtain ⟨q_, R_⟩ := HR.out; exact R_.1
                have zs_ : w.heap.size ≤ v0_20.heap.size := HS.out.2.2.2.1
                replace HR : Hid (∃ q, Rd v0_21 r s n c q) := by obtain ⟨q_, R_⟩ := HR.out; exact ⟨q_, Rd.below' R_ (b5.below (by omega) (by omega))⟩
                replace HS : Hid (Beside r w v0_21) := HS.out.onB (b5.below (by omega) zs_)
                clear zr_ zs_
                clear hv_ b5 t0 d0 tz hst
                refine hK.out _ _ (trivial) (fun hHeld => ?_)
                clear hK KK
                refine wpAnyH_done (by kernel_rfl) ?_ _
                clear hHeld
                have HKb2 : Hid (∀ i, i < nb + 1 → atF nb (K 0) K i ≤ 70000) := fun i hi => by
                  unfold atF
                  split
                  · exact HKb.out 0 hn0
                  · exact HKb.out i (by omega)
                go_wp2_with fail
                go_meet
                exact ⟨nb + 1, cap9, some ⟨g9, 0, none⟩, _, _, _, _, by omega, HR, HS, HN, HU, HB, HD9, HKb2⟩
      clear HR HS HN HU HB HF HKb hC
      obtain ⟨nb2, bc2, bs2, X2, Y2, K2, V2, nb62, HR, HS, HN, HU, HB, HF, HKb⟩ := hcut
      rename World => wq2
      go_upto_region 10 with fail
      go_cut [52] (fun v wx => ∃ C : Bool, v = .bool C ∧ (C = true → 0 < nb2) ∧ Hid (∃ q, Rd wx r s n c q) ∧ Hid (Beside r w wx) ∧ Hid (Blk wx gn [.int .i64 P, .slice td nd kd, .slice ts ns ks]) ∧ Hid (Blk wx gu [.slice none 0 0]) ∧ Hid (Blk wx g5 [.slice bs2 nb2 bc2]) ∧ Hid (BkF (g5 + 1) wx (.slice bs2 nb2 bc2) nb2 X2 Y2 K2 V2))
      case first =>
        obtain ⟨q0, R0⟩ := HR.out
        go_wp2_with fail
        refine (once_any 24 (by omega) (by omega) R0).mono ?_
        rintro e y3 ⟨bo, p5, rfl, R1, b1⟩
        replace HN : Hid (Blk y3 gn [.int .i64 P, .slice td nd kd, .slice ts ns ks]) := HN.out.beside b1 (by omega)
        replace HU : Hid (Blk y3 gu [.slice none 0 0]) := HU.out.beside b1 (by omega)
        replace HB : Hid (Blk y3 g5 [.slice bs2 nb2 bc2]) := HB.out.beside b1 (by omega)
        replace HF : Hid (BkF (g5 + 1) y3 (.slice bs2 nb2 bc2) nb2 X2 Y2 K2 V2) := HF.out.beside b1 (by omega)
        replace HS : Hid (Beside r w y3) := HS.out.trans b1
        replace HR : Hid (∃ q, Rd y3 r s n c q) := ⟨_, R1⟩
        clear R0 R1 b1
        cases bo
        case false =>
          go_wp2_with fail
          go_meet
          exact ⟨false, rfl, fun z => (by cases z), HR, HS, HN, HU, HB, HF⟩
        case true =>
          have c5 := HB.out.2.2 0 _ rfl
          have z5_ := HB.out.1
          by_cases hn0 : 0 < nb2
          case neg =>
            have hn0i : ¬ (0 : Int) < ((nb2 : Nat) : Int) := by omega
            go_wp2_with fail
            go_meet
            exact ⟨false, rfl, fun z => (by cases z), HR, HS, HN, HU, HB, HF⟩
          case pos =>
            have hn0i : (0 : Int) < ((nb2 : Nat) : Int) := by omega
            go_wp2_with fail
            go_meet
            exact ⟨true, rfl, fun _ => hn0, HR, HS, HN, HU, HB, HF⟩
      clear HR HS HN HU HB HF
      obtain ⟨C, rfl, hC, HR, HS, HN, HU, HB, HF⟩ := hcut
      rename World => wp3
      go_upto_if 52 with fail
      go_cut [] (fun wx => ∃ (nb2 bc2 : Nat) (bs2 : Option Addr) (X2 Y2 : Nat → Int) (K2 : Nat → Nat) (V2 : Nat → Nat → Int), nb2 ≤ 6 ∧ Hid (∃ q, Rd wx r s n c q) ∧ Hid (Beside r w wx) ∧ Hid (Blk wx gn [.int .i64 P, .slice td nd kd, .slice ts ns ks]) ∧ Hid (Blk wx gu [.slice none 0 0]) ∧ Hid (Blk wx g5 [.slice bs2 nb2 bc2]) ∧ Hid (BkF (g5 + 1) wx (.slice bs2 nb2 bc2) nb2 X2 Y2 K2 V2) ∧ Hid (∀ i, i < nb2 → K2 i ≤ 70000))
      case first =>
        cases C
        case false =>
          go_wp2_with fail
          go_meet
          exact ⟨nb2, bc2, bs2, X2, Y2, K2, V2, by omega, HR, HS, HN, HU, HB, HF, HKb⟩
        case true =>
          have hn0 : 0 < nb2 := hC rfl
          have hn0i : (0 : Int) < ((nb2 : Nat) : Int) := by omega
          have c5 := HB.out.2.2 0 _ rfl
          have z5_ := HB.out.1
          go_upto_region 11 with fail
          clear c5 z5_
          obtain ⟨AA, CC, hAC⟩ := HF.out
          have HA : Hid (BkA (g5 + 1) wp3 (.slice bs2 nb2 bc2) nb2 X2 Y2 K2 V2 AA CC) := hAC
          clear HF
          obtain ⟨gp, rfl, zp5, -⟩ := HA.out.at0 hn0
          obtain ⟨kC, kN⟩ := (hAC.2 0 hn0).1
          obtain ⟨a0, ha0⟩ : ∃ z, AA 0 = z := ⟨_, rfl⟩
          obtain ⟨kk, hkk⟩ : ∃ z, K2 0 = z := ⟨_, rfl⟩
          obtain ⟨cc, hcc⟩ : ∃ z, CC 0 = z := ⟨_, rfl⟩
          have kk7 : kk ≤ 70000 := by rw [← hkk]; exact HKb.out 0 hn0
          rw [hkk, hcc] at kC
          rw [ha0, hcc] at kN
          have HE0 : Hid (AA 0 = a0 ∧ K2 0 = kk ∧ CC 0 = cc) := ⟨ha0, hkk, hcc⟩
          clear hAC ha0 hkk hcc
          cases a0
          case none =>
            obtain rfl : cc = 0 := kN rfl
            obtain rfl : kk = 0 := by omega
            have K20 : Hid (0 ≤ K2 0) := Nat.zero_le _
            refine wp_region_held_drew (S := fun w' => w'.cell? ⟨g5, 0, none⟩ = some (.slice (some ⟨gp, 0, none⟩) nb2 bc2) ∧ g5 < w'.heap.size) (by kernel_rfl) ?_ (fun hHeld => ?_)
            · exact ⟨HB.out.2.2 0 _ rfl, HB.out.1⟩
            obtain ⟨v0, hv0⟩ : ∃ z, z = wp3.drew := ⟨_, rfl⟩
            try rw [← hv0] at hHeld
            rw [← hv0]
            have bv0 : Below wp3.heap.size wp3 v0 := by rw [hv0]; exact Below.drew (Below.refl _ _)
            clear hv0
            replace HN : Hid (Blk v0 gn [.int .i64 P, .slice td nd kd, .slice ts ns ks]) := HN.out.below bv0
            replace HU : Hid (Blk v0 gu [.slice none 0 0]) := HU.out.below bv0
            replace HB : Hid (Blk v0 g5 [.slice (some ⟨gp, 0, none⟩) nb2 bc2]) := HB.out.below bv0
            replace HA : Hid (BkA (g5 + 1) v0 (.slice (some ⟨gp, 0, none⟩) nb2 bc2) nb2 X2 Y2 K2 V2 AA CC) := HA.out.below bv0
            replace HS : Hid (Beside r w v0) := HS.out.trans (Beside.of bv0)
            replace HR : Hid (∃ q, Rd v0 r s n c q) := by obtain ⟨q_, R_⟩ := HR.out; exact ⟨q_, R_.below bv0⟩
            have HBv : Hid (Below v0.heap.size v0 v0) := Below.refl _ _
            clear bv0
            refine wpAnyH_take (i := 0) (v := .pointer (some ⟨g5, 0, none⟩)) rfl (by kernel_rfl) (by kernel_rfl) (by kernel_rfl) (fun _ _ _ h => h) (Or.inl ⟨by kernel_rfl, ?_⟩) hHeld ?_
            · intro w' hSw
              obtain ⟨hc0, hz0⟩ := hSw
              first | (go_simp; done) | (go_simp; with_reducible rfl) | (go_simp; rw [IntKind.wrap_i64]; omega) | (go_simp; omega)
            simp only [Act.put, List.setIfInBounds_toArray, List.set_cons_zero, List.set_cons_succ]
            refine wpAnyH_take (i := 1) (v := .slice (some ⟨gp, 0, none⟩) nb2 bc2) rfl (by kernel_rfl) (by kernel_rfl) (by kernel_rfl) (fun _ _ _ h => h) (Or.inl ⟨by kernel_rfl, ?_⟩) hHeld ?_
            · intro w' hSw
              obtain ⟨hc0, hz0⟩ := hSw
              first | (go_simp; done) | (go_simp; with_reducible rfl) | (go_simp; rw [IntKind.wrap_i64]; omega) | (go_simp; omega)
            simp only [Act.put, List.setIfInBounds_toArray, List.set_cons_zero, List.set_cons_succ]
            refine wpAnyH_take (i := 3) (v := .pointer (some ⟨g5, 0, none⟩)) rfl (by kernel_rfl) (by kernel_rfl) (by kernel_rfl) (fun _ _ _ h => h) (Or.inl ⟨by kernel_rfl, ?_⟩) hHeld ?_
            · intro w' hSw
              obtain ⟨hc0, hz0⟩ := hSw
              first | (go_simp; done) | (go_simp; with_reducible rfl) | (go_simp; rw [IntKind.wrap_i64]; omega) | (go_simp; omega)
            simp only [Act.put, List.setIfInBounds_toArray, List.set_cons_zero, List.set_cons_succ]
            refine wpAnyH_take (i := 4) (v := .slice (some ⟨gp, 0, none⟩) nb2 bc2) rfl (by kernel_rfl) (by kernel_rfl) (by kernel_rfl) (fun _ _ _ h => h) (Or.inl ⟨by kernel_rfl, ?_⟩) hHeld ?_
            · intro w' hSw
              obtain ⟨hc0, hz0⟩ := hSw
              first | (go_simp; done) | (go_simp; with_reducible rfl) | (go_simp; rw [IntKind.wrap_i64]; omega) | (go_simp; omega)
            simp only [Act.put, List.setIfInBounds_toArray, List.set_cons_zero, List.set_cons_succ]
            refine wpAnyH_take (i := 5) (v := .pointer (some ⟨gp, 0, none⟩)) rfl (by kernel_rfl) (by kernel_rfl) (by kernel_rfl) (fun _ _ _ h => h) (Or.inl ⟨by kernel_rfl, ?_⟩) hHeld ?_
            · intro w' hSw
              obtain ⟨hc0, hz0⟩ := hSw
              first | (go_simp; done) | (go_simp; with_reducible rfl) | (go_simp; rw [IntKind.wrap_i64]; omega) | (go_simp; omega)
            simp only [Act.put, List.setIfInBounds_toArray, List.set_cons_zero, List.set_cons_succ]
            refine wpAnyH_take (i := 6) (v := .pointer (some ⟨gp, 2, none⟩)) rfl (by kernel_rfl) (by kernel_rfl) (by kernel_rfl) (fun _ _ _ h => h) (Or.inl ⟨by kernel_rfl, ?_⟩) hHeld ?_
            · intro w' hSw
              obtain ⟨hc0, hz0⟩ := hSw
              first | (go_simp; done) | (go_simp; with_reducible rfl) | (go_simp; rw [IntKind.wrap_i64]; omega) | (go_simp; omega)
            simp only [Act.put, List.setIfInBounds_toArray, List.set_cons_zero, List.set_cons_succ]
            refine wpAnyH_take (i := 8) (v := .pointer (some ⟨g5, 0, none⟩)) rfl (by kernel_rfl) (by kernel_rfl) (by kernel_rfl) (fun _ _ _ h => h) (Or.inl ⟨by kernel_rfl, ?_⟩) hHeld ?_
            · intro w' hSw
              obtain ⟨hc0, hz0⟩ := hSw
              first | (go_simp; done) | (go_simp; with_reducible rfl) | (go_simp; rw [IntKind.wrap_i64]; omega) | (go_simp; omega)
            simp only [Act.put, List.setIfInBounds_toArray, List.set_cons_zero, List.set_cons_succ]
            refine wpAnyH_take (i := 9) (v := .slice (some ⟨gp, 0, none⟩) nb2 bc2) rfl (by kernel_rfl) (by kernel_rfl) (by kernel_rfl) (fun _ _ _ h => h) (Or.inl ⟨by kernel_rfl, ?_⟩) hHeld ?_
            · intro w' hSw
              obtain ⟨hc0, hz0⟩ := hSw
              first | (go_simp; done) | (go_simp; with_reducible rfl) | (go_simp; rw [IntKind.wrap_i64]; omega) | (go_simp; omega)
            simp only [Act.put, List.setIfInBounds_toArray, List.set_cons_zero, List.set_cons_succ]
            refine wpAnyH_take (i := 10) (v := .pointer (some ⟨gp, 0, none⟩)) rfl (by kernel_rfl) (by kernel_rfl) (by kernel_rfl) (fun _ _ _ h => h) (Or.inl ⟨by kernel_rfl, ?_⟩) hHeld ?_
            · intro w' hSw
              obtain ⟨hc0, hz0⟩ := hSw
              first | (go_simp; done) | (go_simp; with_reducible rfl) | (go_simp; rw [IntKind.wrap_i64]; omega) | (go_simp; omega)
            simp only [Act.put, List.setIfInBounds_toArray, List.set_cons_zero, List.set_cons_succ]
            refine wpAnyH_take (i := 11) (v := .pointer (some ⟨gp, 2, none⟩)) rfl (by kernel_rfl) (by kernel_rfl) (by kernel_rfl) (fun _ _ _ h => h) (Or.inl ⟨by kernel_rfl, ?_⟩) hHeld ?_
            · intro w' hSw
              obtain ⟨hc0, hz0⟩ := hSw
              first | (go_simp; done) | (go_simp; with_reducible rfl) | (go_simp; rw [IntKind.wrap_i64]; omega) | (go_simp; omega)
            simp only [Act.put, List.setIfInBounds_toArray, List.set_cons_zero, List.set_cons_succ]
            refine wpAnyH_ready (rs := [2, 7, 12]) (by kernel_rfl) (by simp) ?_
            refine (AllReadyH.cons rfl (fun KK hK => ?_) (AllReadyH.cons rfl (fun KK hK => ?_) (AllReadyH.cons rfl (fun KK hK => ?_) AllReadyH.nil)))
            · go_simp
              obtain ⟨v0_1, hv_⟩ : ∃ z, z = v0.alloc (.cells #[] 2) := ⟨_, rfl⟩
              rw [← hv_]
              obtain ⟨lb, hlb⟩ : ∃ z, z = v0.heap.size := ⟨_, rfl⟩
              have HLit : Hid (OwL lb v0_1 (.slice (some ⟨lb, 0, none⟩) 0 0) []) := by rw [hv_, hlb]; exact OwL.lit v0 (Nat.le_refl _)
              have zlb : v0.heap.size ≤ lb := by rw [hlb]; exact HBv.out.size
              have zlb2 : lb ≤ v0_1.heap.size := by rw [hv_, hlb]; simp
              have b_ : Below v0.heap.size v0 v0_1 := by rw [hv_]; exact below0 _ _
              replace HBv : Hid (Below v0.heap.size v0 v0_1) := HBv.out.trans (b_.mono HBv.out.size)
              try rw [← hlb]
              clear hv_ hlb b_
              refine hK.out _ _ (⟨(HBv.out.cell (p := ⟨g5, 0, none⟩) HB.out.1).trans (HB.out.2.2 0 _ rfl), Nat.lt_of_lt_of_le HB.out.1 HBv.out.size⟩) (fun hHeld => ?_)
              clear hK KK
              refine wpAnyH_ready (rs := [7, 12]) (by kernel_rfl) (by simp) ?_
              refine (AllReadyH.cons rfl (fun KK hK => ?_) (AllReadyH.cons rfl (fun KK hK => ?_) AllReadyH.nil))
              · have c_ : v0_1.cell? ⟨gp, 2, none⟩ = some (.slice none 0 0) := by
                  obtain ⟨_, eg, -, zg_, -, -, -, a2_⟩ := HA.out.at0 hn0
                  cases eg
                  rw [HE0.out.1, HE0.out.2.1, HE0.out.2.2] at a2_
                  exact (HBv.out.cell (p := ⟨gp, 2, none⟩) zg_).trans a2_
                go_simp
                clear c_
                refine hK.out _ _ (⟨(HBv.out.cell (p := ⟨g5, 0, none⟩) HB.out.1).trans (HB.out.2.2 0 _ rfl), Nat.lt_of_lt_of_le HB.out.1 HBv.out.size⟩) (fun hHeld => ?_)
                clear hK KK
                refine wpAnyH_ready (rs := [12]) (by kernel_rfl) (by simp) ?_
                refine (AllReadyH.cons rfl (fun KK hK => ?_) AllReadyH.nil)
                have c_ : v0_1.cell? ⟨gp, 2, none⟩ = some (.slice none 0 0) := by
                  obtain ⟨_, eg, -, zg_, -, -, -, a2_⟩ := HA.out.at0 hn0
                  cases eg
                  rw [HE0.out.1, HE0.out.2.1, HE0.out.2.2] at a2_
                  exact (HBv.out.cell (p := ⟨gp, 2, none⟩) zg_).trans a2_
                go_simp
                clear c_
                refine hK.out _ _ (⟨(HBv.out.cell (p := ⟨g5, 0, none⟩) HB.out.1).trans (HB.out.2.2 0 _ rfl), Nat.lt_of_lt_of_le HB.out.1 HBv.out.size⟩) (fun hHeld => ?_)
                clear hK KK
                refine wpAnyH_take (i := 13) (v := .int .i64 0) rfl (by kernel_rfl) (by kernel_rfl) (by kernel_rfl) (fun _ _ _ h => h) (Or.inl ⟨by kernel_rfl, ?_⟩) hHeld ?_
                · intro w' hSw
                  obtain ⟨hc0, hz0⟩ := hSw
                  first | (go_simp; done) | (go_simp; with_reducible rfl) | (go_simp; rw [IntKind.wrap_i64]; omega) | (go_simp; omega)
                simp only [Act.put, List.setIfInBounds_toArray, List.set_cons_zero, List.set_cons_succ]
                refine wpAnyH_take (i := 14) (v := .int .i64 0) rfl (by kernel_rfl) (by kernel_rfl) (by kernel_rfl) (fun _ _ _ h => h) (Or.inl ⟨by kernel_rfl, ?_⟩) hHeld ?_
                · intro w' hSw
                  obtain ⟨hc0, hz0⟩ := hSw
                  first | (go_simp; exact hwk) | (go_simp; done) | (go_simp; exact hdv) | (go_simp; rw [hdv]; done) | (go_simp; rfl) | (go_simp; rw [hdv, IntKind.wrap_i64]; omega) | (go_simp; omega)
                simp only [Act.put, List.setIfInBounds_toArray, List.set_cons_zero, List.set_cons_succ]
                refine wpAnyH_take (i := 15) (v := .slice none 0 0) rfl (by kernel_rfl) (by kernel_rfl) (by kernel_rfl) (fun _ _ _ h => h) (Or.inl ⟨by kernel_rfl, ?_⟩) hHeld ?_
                · intro w' hSw
                  obtain ⟨hc0, hz0⟩ := hSw
                  first | (go_simp; done) | (go_simp; with_reducible rfl) | (go_simp; rw [IntKind.wrap_i64]; omega) | (go_simp; omega)
                simp only [Act.put, List.setIfInBounds_toArray, List.set_cons_zero, List.set_cons_succ]
                refine wpAnyH_ready (rs := [16]) (by kernel_rfl) (by simp) ?_
                refine (AllReadyH.cons rfl (fun KK hK => ?_) AllReadyH.nil)
                have HRI : Hid (RowI v0_1 none 0 (nthI (lsOf (V2 0) 0))) := by
                  have q_ := (HA.out.below HBv.out).rowI hn0 K20.out
                  rw [HE0.out.1] at q_
                  exact q_
                refine wp_joinL lb (.slice (some ⟨lb, 0, none⟩) 0 0) [] none 0 0 (lsOf (V2 0) 0) (.tmp 55) (.tmp 68) (by rfl) (by rfl) (by rfl) (ls_len _ _) (by omega) (by simp) zlb2 HLit.out HRI.out ?_
                intro s9 cap9 v0_4 l9 b9 _
                simp only [List.length_nil, Nat.zero_add, List.nil_append] at l9 ⊢
                have HO9 : Hid (OwL lb v0_4 (.slice s9 0 cap9) (lsOf (V2 0) 0)) := l9
                replace HBv : Hid (Below v0.heap.size v0 v0_4) := HBv.out.trans (b9.mono zlb)
                clear l9 b9 HRI HLit
                go_simp
                refine hK.out _ _ (⟨(HBv.out.cell (p := ⟨g5, 0, none⟩) HB.out.1).trans (HB.out.2.2 0 _ rfl), Nat.lt_of_lt_of_le HB.out.1 HBv.out.size⟩) (fun hHeld => ?_)
                clear hK KK
                refine wpAnyH_take (i := 17) (v := .pointer (some ⟨gp, 0, none⟩)) rfl (by kernel_rfl) (by kernel_rfl) (by kernel_rfl) (fun _ _ _ h => h) (Or.inl ⟨by kernel_rfl, ?_⟩) hHeld ?_
                · intro w' hSw
                  obtain ⟨hc0, hz0⟩ := hSw
                  first | (go_simp; done) | (go_simp; with_reducible rfl) | (go_simp; rw [IntKind.wrap_i64]; omega) | (go_simp; omega)
                simp only [Act.put, List.setIfInBounds_toArray, List.set_cons_zero, List.set_cons_succ]
                refine wpAnyH_take (i := 18) (v := .pointer (some ⟨gp, 2, none⟩)) rfl (by kernel_rfl) (by kernel_rfl) (by kernel_rfl) (fun _ _ _ h => h) (Or.inl ⟨by kernel_rfl, ?_⟩) hHeld ?_
                · intro w' hSw
                  obtain ⟨hc0, hz0⟩ := hSw
                  first | (go_simp; done) | (go_simp; with_reducible rfl) | (go_simp; rw [IntKind.wrap_i64]; omega) | (go_simp; omega)
                simp only [Act.put, List.setIfInBounds_toArray, List.set_cons_zero, List.set_cons_succ]
                refine wpAnyH_ready (rs := [19]) (by kernel_rfl) (by simp) ?_
                refine (AllReadyH.cons rfl (fun KK hK => ?_) AllReadyH.nil)
                obtain ⟨_, eg, -, zg_, fg_, -, -, a2_⟩ := (HA.out.below HBv.out).at0 hn0
                cases eg
                have hst := store_slT
                go_simp
                obtain ⟨v0_5, hv_⟩ : ∃ z, z = v0_4.setCell ⟨gp, 2, none⟩ (.slice s9 0 cap9) := ⟨_, rfl⟩
                rw [← hv_]
                have b5 : Beside gp v0_4 v0_5 := by rw [hv_]; exact Beside.setCell gp v0_4 2 _
                have HFw : Hid (BkF (g5 + 1) v0_4 (.slice (some ⟨gp, 0, none⟩) nb2 bc2) nb2 X2 Y2 K2 V2) := ⟨AA, CC, HA.out.below HBv.out⟩
                have HF : Hid (BkF (g5 + 1) v0_5 (.slice (some ⟨gp, 0, none⟩) nb2 bc2) nb2 X2 Y2 (atF 0 0 K2) (atF 0 (V2 0) V2)) := by
                  obtain ⟨gi, hgi⟩ := HO9.out.inner
                  show BkF _ _ _ _ _ _ _ _
                  rw [hv_]
                  refine bk_cut HFw.out hn0 (owL_cap HO9.out (ls_len _ _)) (fun q => ?_)
                  obtain ⟨r1, r2, r3, r4, r5⟩ := hgi q
                  exact ⟨gi, r1, by have := HB.out.1; omega, r3, r4, fun j hj => (r5 j hj).1⟩
                replace HR : Hid (∃ q, Rd v0_5 r s n c q) := by obtain ⟨q_, R_⟩ := HR.out; exact ⟨q_, Rd.below' (R_.below HBv.out) (b5.below (by omega) (by omega))⟩
                replace HN : Hid (Blk v0_5 gn [.int .i64 P, .slice td nd kd, .slice ts ns ks]) := (HN.out.below HBv.out).beside b5 (by omega)
                replace HU : Hid (Blk v0_5 gu [.slice none 0 0]) := (HU.out.below HBv.out).beside b5 (by omega)
                replace HB : Hid (Blk v0_5 g5 [.slice (some ⟨gp, 0, none⟩) nb2 bc2]) := (HB.out.below HBv.out).beside b5 (by omega)
                have HSw : Hid (Beside r w v0_4) := HS.out.trans (Beside.of HBv.out)
                have zs_ := HSw.out.2.2.2.1
                replace HS : Hid (Beside r w v0_5) := HSw.out.onB (b5.below (by omega) zs_)
                clear hv_ b5 hst zg_ fg_ a2_ HFw HSw zs_ HO9
                refine hK.out _ _ (⟨HB.out.2.2 0 _ rfl, HB.out.1⟩) (fun hHeld => ?_)
                clear hK KK
                refine wpAnyH_done (by kernel_rfl) ?_ _
                clear hHeld
                have HKb2 : Hid (∀ i, i < nb2 → atF 0 0 K2 i ≤ 70000) := fun i hi => by
                  unfold atF
                  split
                  · omega
                  · exact HKb.out i hi
                go_wp2_with fail
                go_meet
                exact ⟨_, _, _, _, _, _, _, by omega, HR, HS, HN, HU, HB, HF, HKb2⟩
              · have c_ : v0_1.cell? ⟨gp, 2, none⟩ = some (.slice none 0 0) := by
                  obtain ⟨_, eg, -, zg_, -, -, -, a2_⟩ := HA.out.at0 hn0
                  cases eg
                  rw [HE0.out.1, HE0.out.2.1, HE0.out.2.2] at a2_
                  exact (HBv.out.cell (p := ⟨gp, 2, none⟩) zg_).trans a2_
                go_simp
                clear c_
                refine hK.out _ _ (⟨(HBv.out.cell (p := ⟨g5, 0, none⟩) HB.out.1).trans (HB.out.2.2 0 _ rfl), Nat.lt_of_lt_of_le HB.out.1 HBv.out.size⟩) (fun hHeld => ?_)
                clear hK KK
                refine wpAnyH_take (i := 13) (v := .int .i64 0) rfl (by kernel_rfl) (by kernel_rfl) (by kernel_rfl) (fun _ _ _ h => h) (Or.inl ⟨by kernel_rfl, ?_⟩) hHeld ?_
                · intro w' hSw
                  obtain ⟨hc0, hz0⟩ := hSw
                  first | (go_simp; done) | (go_simp; with_reducible rfl) | (go_simp; rw [IntKind.wrap_i64]; omega) | (go_simp; omega)
                simp only [Act.put, List.setIfInBounds_toArray, List.set_cons_zero, List.set_cons_succ]
                refine wpAnyH_take (i := 14) (v := .int .i64 0) rfl (by kernel_rfl) (by kernel_rfl) (by kernel_rfl) (fun _ _ _ h => h) (Or.inl ⟨by kernel_rfl, ?_⟩) hHeld ?_
                · intro w' hSw
                  obtain ⟨hc0, hz0⟩ := hSw
                  first | (go_simp; exact hwk) | (go_simp; done) | (go_simp; exact hdv) | (go_simp; rw [hdv]; done) | (go_simp; rfl) | (go_simp; rw [hdv, IntKind.wrap_i64]; omega) | (go_simp; omega)
                simp only [Act.put, List.setIfInBounds_toArray, List.set_cons_zero, List.set_cons_succ]
                refine wpAnyH_ready (rs := [7]) (by kernel_rfl) (by simp) ?_
                refine (AllReadyH.cons rfl (fun KK hK => ?_) AllReadyH.nil)
                have c_ : v0_1.cell? ⟨gp, 2, none⟩ = some (.slice none 0 0) := by
                  obtain ⟨_, eg, -, zg_, -, -, -, a2_⟩ := HA.out.at0 hn0
                  cases eg
                  rw [HE0.out.1, HE0.out.2.1, HE0.out.2.2] at a2_
                  exact (HBv.out.cell (p := ⟨gp, 2, none⟩) zg_).trans a2_
                go_simp
                clear c_
                refine hK.out _ _ (⟨(HBv.out.cell (p := ⟨g5, 0, none⟩) HB.out.1).trans (HB.out.2.2 0 _ rfl), Nat.lt_of_lt_of_le HB.out.1 HBv.out.size⟩) (fun hHeld => ?_)
                clear hK KK
                refine wpAnyH_take (i := 15) (v := .slice none 0 0) rfl (by kernel_rfl) (by kernel_rfl) (by kernel_rfl) (fun _ _ _ h => h) (Or.inl ⟨by kernel_rfl, ?_⟩) hHeld ?_
                · intro w' hSw
                  obtain ⟨hc0, hz0⟩ := hSw
                  first | (go_simp; done) | (go_simp; with_reducible rfl) | (go_simp; rw [IntKind.wrap_i64]; omega) | (go_simp; omega)
                simp only [Act.put, List.setIfInBounds_toArray, List.set_cons_zero, List.set_cons_succ]
                refine wpAnyH_ready (rs := [16]) (by kernel_rfl) (by simp) ?_
                refine (AllReadyH.cons rfl (fun KK hK => ?_) AllReadyH.nil)
                have HRI : Hid (RowI v0_1 none 0 (nthI (lsOf (V2 0) 0))) := by
                  have q_ := (HA.out.below HBv.out).rowI hn0 K20.out
                  rw [HE0.out.1] at q_
                  exact q_
                refine wp_joinL lb (.slice (some ⟨lb, 0, none⟩) 0 0) [] none 0 0 (lsOf (V2 0) 0) (.tmp 55) (.tmp 68) (by rfl) (by rfl) (by rfl) (ls_len _ _) (by omega) (by simp) zlb2 HLit.out HRI.out ?_
                intro s9 cap9 v0_8 l9 b9 _
                simp only [List.length_nil, Nat.zero_add, List.nil_append] at l9 ⊢
                have HO9 : Hid (OwL lb v0_8 (.slice s9 0 cap9) (lsOf (V2 0) 0)) := l9
                replace HBv : Hid (Below v0.heap.size v0 v0_8) := HBv.out.trans (b9.mono zlb)
                clear l9 b9 HRI HLit
                go_simp
                refine hK.out _ _ (⟨(HBv.out.cell (p := ⟨g5, 0, none⟩) HB.out.1).trans (HB.out.2.2 0 _ rfl), Nat.lt_of_lt_of_le HB.out.1 HBv.out.size⟩) (fun hHeld => ?_)
                clear hK KK
                refine wpAnyH_take (i := 17) (v := .pointer (some ⟨gp, 0, none⟩)) rfl (by kernel_rfl) (by kernel_rfl) (by kernel_rfl) (fun _ _ _ h => h) (Or.inl ⟨by kernel_rfl, ?_⟩) hHeld ?_
                · intro w' hSw
                  obtain ⟨hc0, hz0⟩ := hSw
                  first | (go_simp; done) | (go_simp; with_reducible rfl) | (go_simp; rw [IntKind.wrap_i64]; omega) | (go_simp; omega)
                simp only [Act.put, List.setIfInBounds_toArray, List.set_cons_zero, List.set_cons_succ]
                refine wpAnyH_take (i := 18) (v := .pointer (some ⟨gp, 2, none⟩)) rfl (by kernel_rfl) (by kernel_rfl) (by kernel_rfl) (fun _ _ _ h => h) (Or.inl ⟨by kernel_rfl, ?_⟩) hHeld ?_
                · intro w' hSw
                  obtain ⟨hc0, hz0⟩ := hSw
                  first | (go_simp; done) | (go_simp; with_reducible rfl) | (go_simp; rw [IntKind.wrap_i64]; omega) | (go_simp; omega)
                simp only [Act.put, List.setIfInBounds_toArray, List.set_cons_zero, List.set_cons_succ]
                refine wpAnyH_ready (rs := [19]) (by kernel_rfl) (by simp) ?_
                refine (AllReadyH.cons rfl (fun KK hK => ?_) AllReadyH.nil)
                obtain ⟨_, eg, -, zg_, fg_, -, -, a2_⟩ := (HA.out.below HBv.out).at0 hn0
                cases eg
                have hst := store_slT
                go_simp
                obtain ⟨v0_9, hv_⟩ : ∃ z, z = v0_8.setCell ⟨gp, 2, none⟩ (.slice s9 0 cap9) := ⟨_, rfl⟩
                rw [← hv_]
                have b5 : Beside gp v0_8 v0_9 := by rw [hv_]; exact Beside.setCell gp v0_8 2 _
                have HFw : Hid (BkF (g5 + 1) v0_8 (.slice (some ⟨gp, 0, none⟩) nb2 bc2) nb2 X2 Y2 K2 V2) := ⟨AA, CC, HA.out.below HBv.out⟩
                have HF : Hid (BkF (g5 + 1) v0_9 (.slice (some ⟨gp, 0, none⟩) nb2 bc2) nb2 X2 Y2 (atF 0 0 K2) (atF 0 (V2 0) V2)) := by
                  obtain ⟨gi, hgi⟩ := HO9.out.inner
                  show BkF _ _ _ _ _ _ _ _
                  rw [hv_]
                  refine bk_cut HFw.out hn0 (owL_cap HO9.out (ls_len _ _)) (fun q => ?_)
                  obtain ⟨r1, r2, r3, r4, r5⟩ := hgi q
                  exact ⟨gi, r1, by have := HB.out.1; omega, r3, r4, fun j hj => (r5 j hj).1⟩
                replace HR : Hid (∃ q, Rd v0_9 r s n c q) := by obtain ⟨q_, R_⟩ := HR.out; exact ⟨q_, Rd.below' (R_.below HBv.out) (b5.below (by omega) (by omega))⟩
                replace HN : Hid (Blk v0_9 gn [.int .i64 P, .slice td nd kd, .slice ts ns ks]) := (HN.out.below HBv.out).beside b5 (by omega)
                replace HU : Hid (Blk v0_9 gu [.slice none 0 0]) := (HU.out.below HBv.out).beside b5 (by omega)
                replace HB : Hid (Blk v0_9 g5 [.slice (some ⟨gp, 0, none⟩) nb2 bc2]) := (HB.out.below HBv.out).beside b5 (by omega)
                have HSw : Hid (Beside r w v0_8) := HS.out.trans (Beside.of HBv.out)
                have zs_ := HSw.out.2.2.2.1
                replace HS : Hid (Beside r w v0_9) := HSw.out.onB (b5.below (by omega) zs_)
                clear hv_ b5 hst zg_ fg_ a2_ HFw HSw zs_ HO9
                refine hK.out _ _ (⟨HB.out.2.2 0 _ rfl, HB.out.1⟩) (fun hHeld => ?_)
                clear hK KK
                refine wpAnyH_done (by kernel_rfl) ?_ _
                clear hHeld
                have HKb2 : Hid (∀ i, i < nb2 → atF 0 0 K2 i ≤ 70000) := fun i hi => by
                  unfold atF
                  split
                  · omega
                  · exact HKb.out i hi
                go_wp2_with fail
                go_meet
                exact ⟨_, _, _, _, _, _, _, by omega, HR, HS, HN, HU, HB, HF, HKb2⟩
            · have c_ : v0.cell? ⟨gp, 2, none⟩ = some (.slice none 0 0) := by
                obtain ⟨_, eg, -, zg_, -, -, -, a2_⟩ := HA.out.at0 hn0
                cases eg
                rw [HE0.out.1, HE0.out.2.1, HE0.out.2.2] at a2_
                exact (HBv.out.cell (p := ⟨gp, 2, none⟩) zg_).trans a2_
              go_simp
              clear c_
              refine hK.out _ _ (⟨(HBv.out.cell (p := ⟨g5, 0, none⟩) HB.out.1).trans (HB.out.2.2 0 _ rfl), Nat.lt_of_lt_of_le HB.out.1 HBv.out.size⟩) (fun hHeld => ?_)
              clear hK KK
              refine wpAnyH_ready (rs := [2, 12]) (by kernel_rfl) (by simp) ?_
              refine (AllReadyH.cons rfl (fun KK hK => ?_) (AllReadyH.cons rfl (fun KK hK => ?_) AllReadyH.nil))
              · go_simp
                obtain ⟨v0_11, hv_⟩ : ∃ z, z = v0.alloc (.cells #[] 2) := ⟨_, rfl⟩
                rw [← hv_]
                obtain ⟨lb, hlb⟩ : ∃ z, z = v0.heap.size := ⟨_, rfl⟩
                have HLit : Hid (OwL lb v0_11 (.slice (some ⟨lb, 0, none⟩) 0 0) []) := by rw [hv_, hlb]; exact OwL.lit v0 (Nat.le_refl _)
                have zlb : v0.heap.size ≤ lb := by rw [hlb]; exact HBv.out.size
                have zlb2 : lb ≤ v0_11.heap.size := by rw [hv_, hlb]; simp
                have b_ : Below v0.heap.size v0 v0_11 := by rw [hv_]; exact below0 _ _
                replace HBv : Hid (Below v0.heap.size v0 v0_11) := HBv.out.trans (b_.mono HBv.out.size)
                try rw [← hlb]
                clear hv_ hlb b_
                refine hK.out _ _ (⟨(HBv.out.cell (p := ⟨g5, 0, none⟩) HB.out.1).trans (HB.out.2.2 0 _ rfl), Nat.lt_of_lt_of_le HB.out.1 HBv.out.size⟩) (fun hHeld => ?_)
                clear hK KK
                refine wpAnyH_ready (rs := [12]) (by kernel_rfl) (by simp) ?_
                refine (AllReadyH.cons rfl (fun KK hK => ?_) AllReadyH.nil)
                have c_ : v0_11.cell? ⟨gp, 2, none⟩ = some (.slice none 0 0) := by
                  obtain ⟨_, eg, -, zg_, -, -, -, a2_⟩ := HA.out.at0 hn0
                  cases eg
                  rw [HE0.out.1, HE0.out.2.1, HE0.out.2.2] at a2_
                  exact (HBv.out.cell (p := ⟨gp, 2, none⟩) zg_).trans a2_
                go_simp
                clear c_
                refine hK.out _ _ (⟨(HBv.out.cell (p := ⟨g5, 0, none⟩) HB.out.1).trans (HB.out.2.2 0 _ rfl), Nat.lt_of_lt_of_le HB.out.1 HBv.out.size⟩) (fun hHeld => ?_)
                clear hK KK
                refine wpAnyH_take (i := 13) (v := .int .i64 0) rfl (by kernel_rfl) (by kernel_rfl) (by kernel_rfl) (fun _ _ _ h => h) (Or.inl ⟨by kernel_rfl, ?_⟩) hHeld ?_
                · intro w' hSw
                  obtain ⟨hc0, hz0⟩ := hSw
                  first | (go_simp; done) | (go_simp; with_reducible rfl) | (go_simp; rw [IntKind.wrap_i64]; omega) | (go_simp; omega)
                simp only [Act.put, List.setIfInBounds_toArray, List.set_cons_zero, List.set_cons_succ]
                refine wpAnyH_take (i := 14) (v := .int .i64 0) rfl (by kernel_rfl) (by kernel_rfl) (by kernel_rfl) (fun _ _ _ h => h) (Or.inl ⟨by kernel_rfl, ?_⟩) hHeld ?_
                · intro w' hSw
                  obtain ⟨hc0, hz0⟩ := hSw
                  first | (go_simp; exact hwk) | (go_simp; done) | (go_simp; exact hdv) | (go_simp; rw [hdv]; done) | (go_simp; rfl) | (go_simp; rw [hdv, IntKind.wrap_i64]; omega) | (go_simp; omega)
                simp only [Act.put, List.setIfInBounds_toArray, List.set_cons_zero, List.set_cons_succ]
                refine wpAnyH_take (i := 15) (v := .slice none 0 0) rfl (by kernel_rfl) (by kernel_rfl) (by kernel_rfl) (fun _ _ _ h => h) (Or.inl ⟨by kernel_rfl, ?_⟩) hHeld ?_
                · intro w' hSw
                  obtain ⟨hc0, hz0⟩ := hSw
                  first | (go_simp; done) | (go_simp; with_reducible rfl) | (go_simp; rw [IntKind.wrap_i64]; omega) | (go_simp; omega)
                simp only [Act.put, List.setIfInBounds_toArray, List.set_cons_zero, List.set_cons_succ]
                refine wpAnyH_ready (rs := [16]) (by kernel_rfl) (by simp) ?_
                refine (AllReadyH.cons rfl (fun KK hK => ?_) AllReadyH.nil)
                have HRI : Hid (RowI v0_11 none 0 (nthI (lsOf (V2 0) 0))) := by
                  have q_ := (HA.out.below HBv.out).rowI hn0 K20.out
                  rw [HE0.out.1] at q_
                  exact q_
                refine wp_joinL lb (.slice (some ⟨lb, 0, none⟩) 0 0) [] none 0 0 (lsOf (V2 0) 0) (.tmp 55) (.tmp 68) (by rfl) (by rfl) (by rfl) (ls_len _ _) (by omega) (by simp) zlb2 HLit.out HRI.out ?_
                intro s9 cap9 v0_13 l9 b9 _
                simp only [List.length_nil, Nat.zero_add, List.nil_append] at l9 ⊢
                have HO9 : Hid (OwL lb v0_13 (.slice s9 0 cap9) (lsOf (V2 0) 0)) := l9
                replace HBv : Hid (Below v0.heap.size v0 v0_13) := HBv.out.trans (b9.mono zlb)
                clear l9 b9 HRI HLit
                go_simp
                refine hK.out _ _ (⟨(HBv.out.cell (p := ⟨g5, 0, none⟩) HB.out.1).trans (HB.out.2.2 0 _ rfl), Nat.lt_of_lt_of_le HB.out.1 HBv.out.size⟩) (fun hHeld => ?_)
                clear hK KK
                refine wpAnyH_take (i := 17) (v := .pointer (some ⟨gp, 0, none⟩)) rfl (by kernel_rfl) (by kernel_rfl) (by kernel_rfl) (fun _ _ _ h => h) (Or.inl ⟨by kernel_rfl, ?_⟩) hHeld ?_
                · intro w' hSw
                  obtain ⟨hc0, hz0⟩ := hSw
                  first | (go_simp; done) | (go_simp; with_reducible rfl) | (go_simp; rw [IntKind.wrap_i64]; omega) | (go_simp; omega)
                simp only [Act.put, List.setIfInBounds_toArray, List.set_cons_zero, List.set_cons_succ]
                refine wpAnyH_take (i := 18) (v := .pointer (some ⟨gp, 2, none⟩)) rfl (by kernel_rfl) (by kernel_rfl) (by kernel_rfl) (fun _ _ _ h => h) (Or.inl ⟨by kernel_rfl, ?_⟩) hHeld ?_
                · intro w' hSw
                  obtain ⟨hc0, hz0⟩ := hSw
                  first | (go_simp; done) | (go_simp; with_reducible rfl) | (go_simp; rw [IntKind.wrap_i64]; omega) | (go_simp; omega)
                simp only [Act.put, List.setIfInBounds_toArray, List.set_cons_zero, List.set_cons_succ]
                refine wpAnyH_ready (rs := [19]) (by kernel_rfl) (by simp) ?_
                refine (AllReadyH.cons rfl (fun KK hK => ?_) AllReadyH.nil)
                obtain ⟨_, eg, -, zg_, fg_, -, -, a2_⟩ := (HA.out.below HBv.out).at0 hn0
                cases eg
                have hst := store_slT
                go_simp
                obtain ⟨v0_14, hv_⟩ : ∃ z, z = v0_13.setCell ⟨gp, 2, none⟩ (.slice s9 0 cap9) := ⟨_, rfl⟩
                rw [← hv_]
                have b5 : Beside gp v0_13 v0_14 := by rw [hv_]; exact Beside.setCell gp v0_13 2 _
                have HFw : Hid (BkF (g5 + 1) v0_13 (.slice (some ⟨gp, 0, none⟩) nb2 bc2) nb2 X2 Y2 K2 V2) := ⟨AA, CC, HA.out.below HBv.out⟩
                have HF : Hid (BkF (g5 + 1) v0_14 (.slice (some ⟨gp, 0, none⟩) nb2 bc2) nb2 X2 Y2 (atF 0 0 K2) (atF 0 (V2 0) V2)) := by
                  obtain ⟨gi, hgi⟩ := HO9.out.inner
                  show BkF _ _ _ _ _ _ _ _
                  rw [hv_]
                  refine bk_cut HFw.out hn0 (owL_cap HO9.out (ls_len _ _)) (fun q => ?_)
                  obtain ⟨r1, r2, r3, r4, r5⟩ := hgi q
                  exact ⟨gi, r1, by have := HB.out.1; omega, r3, r4, fun j hj => (r5 j hj).1⟩
                replace HR : Hid (∃ q, Rd v0_14 r s n c q) := by obtain ⟨q_, R_⟩ := HR.out; exact ⟨q_, Rd.below' (R_.below HBv.out) (b5.below (by omega) (by omega))⟩
                replace HN : Hid (Blk v0_14 gn [.int .i64 P, .slice td nd kd, .slice ts ns ks]) := (HN.out.below HBv.out).beside b5 (by omega)
                replace HU : Hid (Blk v0_14 gu [.slice none 0 0]) := (HU.out.below HBv.out).beside b5 (by omega)
                replace HB : Hid (Blk v0_14 g5 [.slice (some ⟨gp, 0, none⟩) nb2 bc2]) := (HB.out.below HBv.out).beside b5 (by omega)
                have HSw : Hid (Beside r w v0_13) := HS.out.trans (Beside.of HBv.out)
                have zs_ := HSw.out.2.2.2.1
                replace HS : Hid (Beside r w v0_14) := HSw.out.onB (b5.below (by omega) zs_)
                clear hv_ b5 hst zg_ fg_ a2_ HFw HSw zs_ HO9
                refine hK.out _ _ (⟨HB.out.2.2 0 _ rfl, HB.out.1⟩) (fun hHeld => ?_)
                clear hK KK
                refine wpAnyH_done (by kernel_rfl) ?_ _
                clear hHeld
                have HKb2 : Hid (∀ i, i < nb2 → atF 0 0 K2 i ≤ 70000) := fun i hi => by
                  unfold atF
                  split
                  · omega
                  · exact HKb.out i hi
                go_wp2_with fail
                go_meet
                exact ⟨_, _, _, _, _, _, _, by omega, HR, HS, HN, HU, HB, HF, HKb2⟩
              · have c_ : v0.cell? ⟨gp, 2, none⟩ = some (.slice none 0 0) := by
                  obtain ⟨_, eg, -, zg_, -, -, -, a2_⟩ := HA.out.at0 hn0
                  cases eg
                  rw [HE0.out.1, HE0.out.2.1, HE0.out.2.2] at a2_
                  exact (HBv.out.cell (p := ⟨gp, 2, none⟩) zg_).trans a2_
                go_simp
                clear c_
                refine hK.out _ _ (⟨(HBv.out.cell (p := ⟨g5, 0, none⟩) HB.out.1).trans (HB.out.2.2 0 _ rfl), Nat.lt_of_lt_of_le HB.out.1 HBv.out.size⟩) (fun hHeld => ?_)
                clear hK KK
                refine wpAnyH_take (i := 13) (v := .int .i64 0) rfl (by kernel_rfl) (by kernel_rfl) (by kernel_rfl) (fun _ _ _ h => h) (Or.inl ⟨by kernel_rfl, ?_⟩) hHeld ?_
                · intro w' hSw
                  obtain ⟨hc0, hz0⟩ := hSw
                  first | (go_simp; done) | (go_simp; with_reducible rfl) | (go_simp; rw [IntKind.wrap_i64]; omega) | (go_simp; omega)
                simp only [Act.put, List.setIfInBounds_toArray, List.set_cons_zero, List.set_cons_succ]
                refine wpAnyH_take (i := 14) (v := .int .i64 0) rfl (by kernel_rfl) (by kernel_rfl) (by kernel_rfl) (fun _ _ _ h => h) (Or.inl ⟨by kernel_rfl, ?_⟩) hHeld ?_
                · intro w' hSw
                  obtain ⟨hc0, hz0⟩ := hSw
                  first | (go_simp; exact hwk) | (go_simp; done) | (go_simp; exact hdv) | (go_simp; rw [hdv]; done) | (go_simp; rfl) | (go_simp; rw [hdv, IntKind.wrap_i64]; omega) | (go_simp; omega)
                simp only [Act.put, List.setIfInBounds_toArray, List.set_cons_zero, List.set_cons_succ]
                refine wpAnyH_take (i := 15) (v := .slice none 0 0) rfl (by kernel_rfl) (by kernel_rfl) (by kernel_rfl) (fun _ _ _ h => h) (Or.inl ⟨by kernel_rfl, ?_⟩) hHeld ?_
                · intro w' hSw
                  obtain ⟨hc0, hz0⟩ := hSw
                  first | (go_simp; done) | (go_simp; with_reducible rfl) | (go_simp; rw [IntKind.wrap_i64]; omega) | (go_simp; omega)
                simp only [Act.put, List.setIfInBounds_toArray, List.set_cons_zero, List.set_cons_succ]
                refine wpAnyH_ready (rs := [2]) (by kernel_rfl) (by simp) ?_
                refine (AllReadyH.cons rfl (fun KK hK => ?_) AllReadyH.nil)
                go_simp
                obtain ⟨v0_16, hv_⟩ : ∃ z, z = v0.alloc (.cells #[] 2) := ⟨_, rfl⟩
                rw [← hv_]
                obtain ⟨lb, hlb⟩ : ∃ z, z = v0.heap.size := ⟨_, rfl⟩
                have HLit : Hid (OwL lb v0_16 (.slice (some ⟨lb, 0, none⟩) 0 0) []) := by rw [hv_, hlb]; exact OwL.lit v0 (Nat.le_refl _)
                have zlb : v0.heap.size ≤ lb := by rw [hlb]; exact HBv.out.size
                have zlb2 : lb ≤ v0_16.heap.size := by rw [hv_, hlb]; simp
                have b_ : Below v0.heap.size v0 v0_16 := by rw [hv_]; exact below0 _ _
                replace HBv : Hid (Below v0.heap.size v0 v0_16) := HBv.out.trans (b_.mono HBv.out.size)
                try rw [← hlb]
                clear hv_ hlb b_
                refine hK.out _ _ (⟨(HBv.out.cell (p := ⟨g5, 0, none⟩) HB.out.1).trans (HB.out.2.2 0 _ rfl), Nat.lt_of_lt_of_le HB.out.1 HBv.out.size⟩) (fun hHeld => ?_)
                clear hK KK
                refine wpAnyH_ready (rs := [16]) (by kernel_rfl) (by simp) ?_
                refine (AllReadyH.cons rfl (fun KK hK => ?_) AllReadyH.nil)
                have HRI : Hid (RowI v0_16 none 0 (nthI (lsOf (V2 0) 0))) := by
                  have q_ := (HA.out.below HBv.out).rowI hn0 K20.out
                  rw [HE0.out.1] at q_
                  exact q_
                refine wp_joinL lb (.slice (some ⟨lb, 0, none⟩) 0 0) [] none 0 0 (lsOf (V2 0) 0) (.tmp 55) (.tmp 68) (by rfl) (by rfl) (by rfl) (ls_len _ _) (by omega) (by simp) zlb2 HLit.out HRI.out ?_
                intro s9 cap9 v0_17 l9 b9 _
                simp only [List.length_nil, Nat.zero_add, List.nil_append] at l9 ⊢
                have HO9 : Hid (OwL lb v0_17 (.slice s9 0 cap9) (lsOf (V2 0) 0)) := l9
                replace HBv : Hid (Below v0.heap.size v0 v0_17) := HBv.out.trans (b9.mono zlb)
                clear l9 b9 HRI HLit
                go_simp
                refine hK.out _ _ (⟨(HBv.out.cell (p := ⟨g5, 0, none⟩) HB.out.1).trans (HB.out.2.2 0 _ rfl), Nat.lt_of_lt_of_le HB.out.1 HBv.out.size⟩) (fun hHeld => ?_)
                clear hK KK
                refine wpAnyH_take (i := 17) (v := .pointer (some ⟨gp, 0, none⟩)) rfl (by kernel_rfl) (by kernel_rfl) (by kernel_rfl) (fun _ _ _ h => h) (Or.inl ⟨by kernel_rfl, ?_⟩) hHeld ?_
                · intro w' hSw
                  obtain ⟨hc0, hz0⟩ := hSw
                  first | (go_simp; done) | (go_simp; with_reducible rfl) | (go_simp; rw [IntKind.wrap_i64]; omega) | (go_simp; omega)
                simp only [Act.put, List.setIfInBounds_toArray, List.set_cons_zero, List.set_cons_succ]
                refine wpAnyH_take (i := 18) (v := .pointer (some ⟨gp, 2, none⟩)) rfl (by kernel_rfl) (by kernel_rfl) (by kernel_rfl) (fun _ _ _ h => h) (Or.inl ⟨by kernel_rfl, ?_⟩) hHeld ?_
                · intro w' hSw
                  obtain ⟨hc0, hz0⟩ := hSw
                  first | (go_simp; done) | (go_simp; with_reducible rfl) | (go_simp; rw [IntKind.wrap_i64]; omega) | (go_simp; omega)
                simp only [Act.put, List.setIfInBounds_toArray, List.set_cons_zero, List.set_cons_succ]
                refine wpAnyH_ready (rs := [19]) (by kernel_rfl) (by simp) ?_
                refine (AllReadyH.cons rfl (fun KK hK => ?_) AllReadyH.nil)
                obtain ⟨_, eg, -, zg_, fg_, -, -, a2_⟩ := (HA.out.below HBv.out).at0 hn0
                cases eg
                have hst := store_slT
                go_simp
                obtain ⟨v0_18, hv_⟩ : ∃ z, z = v0_17.setCell ⟨gp, 2, none⟩ (.slice s9 0 cap9) := ⟨_, rfl⟩
                rw [← hv_]
                have b5 : Beside gp v0_17 v0_18 := by rw [hv_]; exact Beside.setCell gp v0_17 2 _
                have HFw : Hid (BkF (g5 + 1) v0_17 (.slice (some ⟨gp, 0, none⟩) nb2 bc2) nb2 X2 Y2 K2 V2) := ⟨AA, CC, HA.out.below HBv.out⟩
                have HF : Hid (BkF (g5 + 1) v0_18 (.slice (some ⟨gp, 0, none⟩) nb2 bc2) nb2 X2 Y2 (atF 0 0 K2) (atF 0 (V2 0) V2)) := by
                  obtain ⟨gi, hgi⟩ := HO9.out.inner
                  show BkF _ _ _ _ _ _ _ _
                  rw [hv_]
                  refine bk_cut HFw.out hn0 (owL_cap HO9.out (ls_len _ _)) (fun q => ?_)
                  obtain ⟨r1, r2, r3, r4, r5⟩ := hgi q
                  exact ⟨gi, r1, by have := HB.out.1; omega, r3, r4, fun j hj => (r5 j hj).1⟩
                replace HR : Hid (∃ q, Rd v0_18 r s n c q) := by obtain ⟨q_, R_⟩ := HR.out; exact ⟨q_, Rd.below' (R_.below HBv.out) (b5.below (by omega) (by omega))⟩
                replace HN : Hid (Blk v0_18 gn [.int .i64 P, .slice td nd kd, .slice ts ns ks]) := (HN.out.below HBv.out).beside b5 (by omega)
                replace HU : Hid (Blk v0_18 gu [.slice none 0 0]) := (HU.out.below HBv.out).beside b5 (by omega)
                replace HB : Hid (Blk v0_18 g5 [.slice (some ⟨gp, 0, none⟩) nb2 bc2]) := (HB.out.below HBv.out).beside b5 (by omega)
                have HSw : Hid (Beside r w v0_17) := HS.out.trans (Beside.of HBv.out)
                have zs_ := HSw.out.2.2.2.1
                replace HS : Hid (Beside r w v0_18) := HSw.out.onB (b5.below (by omega) zs_)
                clear hv_ b5 hst zg_ fg_ a2_ HFw HSw zs_ HO9
                refine hK.out _ _ (⟨HB.out.2.2 0 _ rfl, HB.out.1⟩) (fun hHeld => ?_)
                clear hK KK
                refine wpAnyH_done (by kernel_rfl) ?_ _
                clear hHeld
                have HKb2 : Hid (∀ i, i < nb2 → atF 0 0 K2 i ≤ 70000) := fun i hi => by
                  unfold atF
                  split
                  · omega
                  · exact HKb.out i hi
                go_wp2_with fail
                go_meet
                exact ⟨_, _, _, _, _, _, _, by omega, HR, HS, HN, HU, HB, HF, HKb2⟩
            · have c_ : v0.cell? ⟨gp, 2, none⟩ = some (.slice none 0 0) := by
                obtain ⟨_, eg, -, zg_, -, -, -, a2_⟩ := HA.out.at0 hn0
                cases eg
                rw [HE0.out.1, HE0.out.2.1, HE0.out.2.2] at a2_
                exact (HBv.out.cell (p := ⟨gp, 2, none⟩) zg_).trans a2_
              go_simp
              clear c_
              refine hK.out _ _ (⟨(HBv.out.cell (p := ⟨g5, 0, none⟩) HB.out.1).trans (HB.out.2.2 0 _ rfl), Nat.lt_of_lt_of_le HB.out.1 HBv.out.size⟩) (fun hHeld => ?_)
              clear hK KK
              refine wpAnyH_take (i := 13) (v := .int .i64 0) rfl (by kernel_rfl) (by kernel_rfl) (by kernel_rfl) (fun _ _ _ h => h) (Or.inl ⟨by kernel_rfl, ?_⟩) hHeld ?_
              · intro w' hSw
                obtain ⟨hc0, hz0⟩ := hSw
                first | (go_simp; done) | (go_simp; with_reducible rfl) | (go_simp; rw [IntKind.wrap_i64]; omega) | (go_simp; omega)
              simp only [Act.put, List.setIfInBounds_toArray, List.set_cons_zero, List.set_cons_succ]
              refine wpAnyH_take (i := 14) (v := .int .i64 0) rfl (by kernel_rfl) (by kernel_rfl) (by kernel_rfl) (fun _ _ _ h => h) (Or.inl ⟨by kernel_rfl, ?_⟩) hHeld ?_
              · intro w' hSw
                obtain ⟨hc0, hz0⟩ := hSw
                first | (go_simp; exact hwk) | (go_simp; done) | (go_simp; exact hdv) | (go_simp; rw [hdv]; done) | (go_simp; rfl) | (go_simp; rw [hdv, IntKind.wrap_i64]; omega) | (go_simp; omega)
              simp only [Act.put, List.setIfInBounds_toArray, List.set_cons_zero, List.set_cons_succ]
              refine wpAnyH_ready (rs := [2, 7]) (by kernel_rfl) (by simp) ?_
              refine (AllReadyH.cons rfl (fun KK hK => ?_) (AllReadyH.cons rfl (fun KK hK => ?_) AllReadyH.nil))
              · go_simp
                obtain ⟨v0_20, hv_⟩ : ∃ z, z = v0.alloc (.cells #[] 2) := ⟨_, rfl⟩
                rw [← hv_]
                obtain ⟨lb, hlb⟩ : ∃ z, z = v0.heap.size := ⟨_, rfl⟩
                have HLit : Hid (OwL lb v0_20 (.slice (some ⟨lb, 0, none⟩) 0 0) []) := by rw [hv_, hlb]; exact OwL.lit v0 (Nat.le_refl _)
                have zlb : v0.heap.size ≤ lb := by rw [hlb]; exact HBv.out.size
                have zlb2 : lb ≤ v0_20.heap.size := by rw [hv_, hlb]; simp
                have b_ : Below v0.heap.size v0 v0_20 := by rw [hv_]; exact below0 _ _
                replace HBv : Hid (Below v0.heap.size v0 v0_20) := HBv.out.trans (b_.mono HBv.out.size)
                try rw [← hlb]
                clear hv_ hlb b_
                refine hK.out _ _ (⟨(HBv.out.cell (p := ⟨g5, 0, none⟩) HB.out.1).trans (HB.out.2.2 0 _ rfl), Nat.lt_of_lt_of_le HB.out.1 HBv.out.size⟩) (fun hHeld => ?_)
                clear hK KK
                refine wpAnyH_ready (rs := [7]) (by kernel_rfl) (by simp) ?_
                refine (AllReadyH.cons rfl (fun KK hK => ?_) AllReadyH.nil)
                have c_ : v0_20.cell? ⟨gp, 2, none⟩ = some (.slice none 0 0) := by
                  obtain ⟨_, eg, -, zg_, -, -, -, a2_⟩ := HA.out.at0 hn0
                  cases eg
                  rw [HE0.out.1, HE0.out.2.1, HE0.out.2.2] at a2_
                  exact (HBv.out.cell (p := ⟨gp, 2, none⟩) zg_).trans a2_
                go_simp
                clear c_
                refine hK.out _ _ (⟨(HBv.out.cell (p := ⟨g5, 0, none⟩) HB.out.1).trans (HB.out.2.2 0 _ rfl), Nat.lt_of_lt_of_le HB.out.1 HBv.out.size⟩) (fun hHeld => ?_)
                clear hK KK
                refine wpAnyH_take (i := 15) (v := .slice none 0 0) rfl (by kernel_rfl) (by kernel_rfl) (by kernel_rfl) (fun _ _ _ h => h) (Or.inl ⟨by kernel_rfl, ?_⟩) hHeld ?_
                · intro w' hSw
                  obtain ⟨hc0, hz0⟩ := hSw
                  first | (go_simp; done) | (go_simp; with_reducible rfl) | (go_simp; rw [IntKind.wrap_i64]; omega) | (go_simp; omega)
                simp only [Act.put, List.setIfInBounds_toArray, List.set_cons_zero, List.set_cons_succ]
                refine wpAnyH_ready (rs := [16]) (by kernel_rfl) (by simp) ?_
                refine (AllReadyH.cons rfl (fun KK hK => ?_) AllReadyH.nil)
                have HRI : Hid (RowI v0_20 none 0 (nthI (lsOf (V2 0) 0))) := by
                  have q_ := (HA.out.below HBv.out).rowI hn0 K20.out
                  rw [HE0.out.1] at q_
                  exact q_
                refine wp_joinL lb (.slice (some ⟨lb, 0, none⟩) 0 0) [] none 0 0 (lsOf (V2 0) 0) (.tmp 55) (.tmp 68) (by rfl) (by rfl) (by rfl) (ls_len _ _) (by omega) (by simp) zlb2 HLit.out HRI.out ?_
                intro s9 cap9 v0_22 l9 b9 _
                simp only [List.length_nil, Nat.zero_add, List.nil_append] at l9 ⊢
                have HO9 : Hid (OwL lb v0_22 (.slice s9 0 cap9) (lsOf (V2 0) 0)) := l9
                replace HBv : Hid (Below v0.heap.size v0 v0_22) := HBv.out.trans (b9.mono zlb)
                clear l9 b9 HRI HLit
                go_simp
                refine hK.out _ _ (⟨(HBv.out.cell (p := ⟨g5, 0, none⟩) HB.out.1).trans (HB.out.2.2 0 _ rfl), Nat.lt_of_lt_of_le HB.out.1 HBv.out.size⟩) (fun hHeld => ?_)
                clear hK KK
                refine wpAnyH_take (i := 17) (v := .pointer (some ⟨gp, 0, none⟩)) rfl (by kernel_rfl) (by kernel_rfl) (by kernel_rfl) (fun _ _ _ h => h) (Or.inl ⟨by kernel_rfl, ?_⟩) hHeld ?_
                · intro w' hSw
                  obtain ⟨hc0, hz0⟩ := hSw
                  first | (go_simp; done) | (go_simp; with_reducible rfl) | (go_simp; rw [IntKind.wrap_i64]; omega) | (go_simp; omega)
                simp only [Act.put, List.setIfInBounds_toArray, List.set_cons_zero, List.set_cons_succ]
                refine wpAnyH_take (i := 18) (v := .pointer (some ⟨gp, 2, none⟩)) rfl (by kernel_rfl) (by kernel_rfl) (by kernel_rfl) (fun _ _ _ h => h) (Or.inl ⟨by kernel_rfl, ?_⟩) hHeld ?_
                · intro w' hSw
                  obtain ⟨hc0, hz0⟩ := hSw
                  first | (go_simp; done) | (go_simp; with_reducible rfl) | (go_simp; rw [IntKind.wrap_i64]; omega) | (go_simp; omega)
                simp only [Act.put, List.setIfInBounds_toArray, List.set_cons_zero, List.set_cons_succ]
                refine wpAnyH_ready (rs := [19]) (by kernel_rfl) (by simp) ?_
                refine (AllReadyH.cons rfl (fun KK hK => ?_) AllReadyH.nil)
                obtain ⟨_, eg, -, zg_, fg_, -, -, a2_⟩ := (HA.out.below HBv.out).at0 hn0
                cases eg
                have hst := store_slT
                go_simp
                obtain ⟨v0_23, hv_⟩ : ∃ z, z = v0_22.setCell ⟨gp, 2, none⟩ (.slice s9 0 cap9) := ⟨_, rfl⟩
                rw [← hv_]
                have b5 : Beside gp v0_22 v0_23 := by rw [hv_]; exact Beside.setCell gp v0_22 2 _
                have HFw : Hid (BkF (g5 + 1) v0_22 (.slice (some ⟨gp, 0, none⟩) nb2 bc2) nb2 X2 Y2 K2 V2) := ⟨AA, CC, HA.out.below HBv.out⟩
                have HF : Hid (BkF (g5 + 1) v0_23 (.slice (some ⟨gp, 0, none⟩) nb2 bc2) nb2 X2 Y2 (atF 0 0 K2) (atF 0 (V2 0) V2)) := by
                  obtain ⟨gi, hgi⟩ := HO9.out.inner
                  show BkF _ _ _ _ _ _ _ _
                  rw [hv_]
                  refine bk_cut HFw.out hn0 (owL_cap HO9.out (ls_len _ _)) (fun q => ?_)
                  obtain ⟨r1, r2, r3, r4, r5⟩ := hgi q
                  exact ⟨gi, r1, by have := HB.out.1; omega, r3, r4, fun j hj => (r5 j hj).1⟩
                replace HR : Hid (∃ q, Rd v0_23 r s n c q) := by obtain ⟨q_, R_⟩ := HR.out; exact ⟨q_, Rd.below' (R_.below HBv.out) (b5.below (by omega) (by omega))⟩
                replace HN : Hid (Blk v0_23 gn [.int .i64 P, .slice td nd kd, .slice ts ns ks]) := (HN.out.below HBv.out).beside b5 (by omega)
                replace HU : Hid (Blk v0_23 gu [.slice none 0 0]) := (HU.out.below HBv.out).beside b5 (by omega)
                replace HB : Hid (Blk v0_23 g5 [.slice (some ⟨gp, 0, none⟩) nb2 bc2]) := (HB.out.below HBv.out).beside b5 (by omega)
                have HSw : Hid (Beside r w v0_22) := HS.out.trans (Beside.of HBv.out)
                have zs_ := HSw.out.2.2.2.1
                replace HS : Hid (Beside r w v0_23) := HSw.out.onB (b5.below (by omega) zs_)
                clear hv_ b5 hst zg_ fg_ a2_ HFw HSw zs_ HO9
                refine hK.out _ _ (⟨HB.out.2.2 0 _ rfl, HB.out.1⟩) (fun hHeld => ?_)
                clear hK KK
                refine wpAnyH_done (by kernel_rfl) ?_ _
                clear hHeld
                have HKb2 : Hid (∀ i, i < nb2 → atF 0 0 K2 i ≤ 70000) := fun i hi => by
                  unfold atF
                  split
                  · omega
                  · exact HKb.out i hi
                go_wp2_with fail
                go_meet
                exact ⟨_, _, _, _, _, _, _, by omega, HR, HS, HN, HU, HB, HF, HKb2⟩
              · have c_ : v0.cell? ⟨gp, 2, none⟩ = some (.slice none 0 0) := by
                  obtain ⟨_, eg, -, zg_, -, -, -, a2_⟩ := HA.out.at0 hn0
                  cases eg
                  rw [HE0.out.1, HE0.out.2.1, HE0.out.2.2] at a2_
                  exact (HBv.out.cell (p := ⟨gp, 2, none⟩) zg_).trans a2_
                go_simp
                clear c_
                refine hK.out _ _ (⟨(HBv.out.cell (p := ⟨g5, 0, none⟩) HB.out.1).trans (HB.out.2.2 0 _ rfl), Nat.lt_of_lt_of_le HB.out.1 HBv.out.size⟩) (fun hHeld => ?_)
                clear hK KK
                refine wpAnyH_take (i := 15) (v := .slice none 0 0) rfl (by kernel_rfl) (by kernel_rfl) (by kernel_rfl) (fun _ _ _ h => h) (Or.inl ⟨by kernel_rfl, ?_⟩) hHeld ?_
                · intro w' hSw
                  obtain ⟨hc0, hz0⟩ := hSw
                  first | (go_simp; done) | (go_simp; with_reducible rfl) | (go_simp; rw [IntKind.wrap_i64]; omega) | (go_simp; omega)
                simp only [Act.put, List.setIfInBounds_toArray, List.set_cons_zero, List.set_cons_succ]
                refine wpAnyH_ready (rs := [2]) (by kernel_rfl) (by simp) ?_
                refine (AllReadyH.cons rfl (fun KK hK => ?_) AllReadyH.nil)
                go_simp
                obtain ⟨v0_25, hv_⟩ : ∃ z, z = v0.alloc (.cells #[] 2) := ⟨_, rfl⟩
                rw [← hv_]
                obtain ⟨lb, hlb⟩ : ∃ z, z = v0.heap.size := ⟨_, rfl⟩
                have HLit : Hid (OwL lb v0_25 (.slice (some ⟨lb, 0, none⟩) 0 0) []) := by rw [hv_, hlb]; exact OwL.lit v0 (Nat.le_refl _)
                have zlb : v0.heap.size ≤ lb := by rw [hlb]; exact HBv.out.size
                have zlb2 : lb ≤ v0_25.heap.size := by rw [hv_, hlb]; simp
                have b_ : Below v0.heap.size v0 v0_25 := by rw [hv_]; exact below0 _ _
                replace HBv : Hid (Below v0.heap.size v0 v0_25) := HBv.out.trans (b_.mono HBv.out.size)
                try rw [← hlb]
                clear hv_ hlb b_
                refine hK.out _ _ (⟨(HBv.out.cell (p := ⟨g5, 0, none⟩) HB.out.1).trans (HB.out.2.2 0 _ rfl), Nat.lt_of_lt_of_le HB.out.1 HBv.out.size⟩) (fun hHeld => ?_)
                clear hK KK
                refine wpAnyH_ready (rs := [16]) (by kernel_rfl) (by simp) ?_
                refine (AllReadyH.cons rfl (fun KK hK => ?_) AllReadyH.nil)
                have HRI : Hid (RowI v0_25 none 0 (nthI (lsOf (V2 0) 0))) := by
                  have q_ := (HA.out.below HBv.out).rowI hn0 K20.out
                  rw [HE0.out.1] at q_
                  exact q_
                refine wp_joinL lb (.slice (some ⟨lb, 0, none⟩) 0 0) [] none 0 0 (lsOf (V2 0) 0) (.tmp 55) (.tmp 68) (by rfl) (by rfl) (by rfl) (ls_len _ _) (by omega) (by simp) zlb2 HLit.out HRI.out ?_
                intro s9 cap9 v0_26 l9 b9 _
                simp only [List.length_nil, Nat.zero_add, List.nil_append] at l9 ⊢
                have HO9 : Hid (OwL lb v0_26 (.slice s9 0 cap9) (lsOf (V2 0) 0)) := l9
                replace HBv : Hid (Below v0.heap.size v0 v0_26) := HBv.out.trans (b9.mono zlb)
                clear l9 b9 HRI HLit
                go_simp
                refine hK.out _ _ (⟨(HBv.out.cell (p := ⟨g5, 0, none⟩) HB.out.1).trans (HB.out.2.2 0 _ rfl), Nat.lt_of_lt_of_le HB.out.1 HBv.out.size⟩) (fun hHeld => ?_)
                clear hK KK
                refine wpAnyH_take (i := 17) (v := .pointer (some ⟨gp, 0, none⟩)) rfl (by kernel_rfl) (by kernel_rfl) (by kernel_rfl) (fun _ _ _ h => h) (Or.inl ⟨by kernel_rfl, ?_⟩) hHeld ?_
                · intro w' hSw
                  obtain ⟨hc0, hz0⟩ := hSw
                  first | (go_simp; done) | (go_simp; with_reducible rfl) | (go_simp; rw [IntKind.wrap_i64]; omega) | (go_simp; omega)
                simp only [Act.put, List.setIfInBounds_toArray, List.set_cons_zero, List.set_cons_succ]
                refine wpAnyH_take (i := 18) (v := .pointer (some ⟨gp, 2, none⟩)) rfl (by kernel_rfl) (by kernel_rfl) (by kernel_rfl) (fun _ _ _ h => h) (Or.inl ⟨by kernel_rfl, ?_⟩) hHeld ?_
                · intro w' hSw
                  obtain ⟨hc0, hz0⟩ := hSw
                  first | (go_simp; done) | (go_simp; with_reducible rfl) | (go_simp; rw [IntKind.wrap_i64]; omega) | (go_simp; omega)
                simp only [Act.put, List.setIfInBounds_toArray, List.set_cons_zero, List.set_cons_succ]
                refine wpAnyH_ready (rs := [19]) (by kernel_rfl) (by simp) ?_
                refine (AllReadyH.cons rfl (fun KK hK => ?_) AllReadyH.nil)
                obtain ⟨_, eg, -, zg_, fg_, -, -, a2_⟩ := (HA.out.below HBv.out).at0 hn0
                cases eg
                have hst := store_slT
                go_simp
                obtain ⟨v0_27, hv_⟩ : ∃ z, z = v0_26.setCell ⟨gp, 2, none⟩ (.slice s9 0 cap9) := ⟨_, rfl⟩
                rw [← hv_]
                have b5 : Beside gp v0_26 v0_27 := by rw [hv_]; exact Beside.setCell gp v0_26 2 _
                have HFw : Hid (BkF (g5 + 1) v0_26 (.slice (some ⟨gp, 0, none⟩) nb2 bc2) nb2 X2 Y2 K2 V2) := ⟨AA, CC, HA.out.below HBv.out⟩
                have HF : Hid (BkF (g5 + 1) v0_27 (.slice (some ⟨gp, 0, none⟩) nb2 bc2) nb2 X2 Y2 (atF 0 0 K2) (atF 0 (V2 0) V2)) := by
                  obtain ⟨gi, hgi⟩ := HO9.out.inner
                  show BkF _ _ _ _ _ _ _ _
                  rw [hv_]
                  refine bk_cut HFw.out hn0 (owL_cap HO9.out (ls_len _ _)) (fun q => ?_)
                  obtain ⟨r1, r2, r3, r4, r5⟩ := hgi q
                  exact ⟨gi, r1, by have := HB.out.1; omega, r3, r4, fun j hj => (r5 j hj).1⟩
                replace HR : Hid (∃ q, Rd v0_27 r s n c q) := by obtain ⟨q_, R_⟩ := HR.out; exact ⟨q_, Rd.below' (R_.below HBv.out) (b5.below (by omega) (by omega))⟩
                replace HN : Hid (Blk v0_27 gn [.int .i64 P, .slice td nd kd, .slice ts ns ks]) := (HN.out.below HBv.out).beside b5 (by omega)
                replace HU : Hid (Blk v0_27 gu [.slice none 0 0]) := (HU.out.below HBv.out).beside b5 (by omega)
                replace HB : Hid (Blk v0_27 g5 [.slice (some ⟨gp, 0, none⟩) nb2 bc2]) := (HB.out.below HBv.out).beside b5 (by omega)
                have HSw : Hid (Beside r w v0_26) := HS.out.trans (Beside.of HBv.out)
                have zs_ := HSw.out.2.2.2.1
                replace HS : Hid (Beside r w v0_27) := HSw.out.onB (b5.below (by omega) zs_)
                clear hv_ b5 hst zg_ fg_ a2_ HFw HSw zs_ HO9
                refine hK.out _ _ (⟨HB.out.2.2 0 _ rfl, HB.out.1⟩) (fun hHeld => ?_)
                clear hK KK
                refine wpAnyH_done (by kernel_rfl) ?_ _
                clear hHeld
                have HKb2 : Hid (∀ i, i < nb2 → atF 0 0 K2 i ≤ 70000) := fun i hi => by
                  unfold atF
                  split
                  · omega
                  · exact HKb.out i hi
                go_wp2_with fail
                go_meet
                exact ⟨_, _, _, _, _, _, _, by omega, HR, HS, HN, HU, HB, HF, HKb2⟩
          case some ad =>
            obtain ⟨k2, hk2⟩ : ∃ z, z = kk / 2 := ⟨_, rfl⟩
            have hdv : ((kk : Nat) : Int).tdiv 2 = (k2 : Int) := by rw [hk2]; rfl
            have hwk : IntKind.i64.wrap (k2 : Int) = (k2 : Int) := by rw [IntKind.wrap_i64]; omega
            have hk2c : (k2 : Int) ≤ (cc : Int) := by omega
            have hk2k : k2 ≤ kk := by omega
            clear hk2
            have K20 : Hid (k2 ≤ K2 0) := by show _ ≤ _; rw [HE0.out.2.1]; exact hk2k
            refine wp_region_held_drew (S := fun w' => w'.cell? ⟨g5, 0, none⟩ = some (.slice (some ⟨gp, 0, none⟩) nb2 bc2) ∧ g5 < w'.heap.size) (by kernel_rfl) ?_ (fun hHeld => ?_)
            · exact ⟨HB.out.2.2 0 _ rfl, HB.out.1⟩
            obtain ⟨v0, hv0⟩ : ∃ z, z = wp3.drew := ⟨_, rfl⟩
            try rw [← hv0] at hHeld
            rw [← hv0]
            have bv0 : Below wp3.heap.size wp3 v0 := by rw [hv0]; exact Below.drew (Below.refl _ _)
            clear hv0
            replace HN : Hid (Blk v0 gn [.int .i64 P, .slice td nd kd, .slice ts ns ks]) := HN.out.below bv0
            replace HU : Hid (Blk v0 gu [.slice none 0 0]) := HU.out.below bv0
            replace HB : Hid (Blk v0 g5 [.slice (some ⟨gp, 0, none⟩) nb2 bc2]) := HB.out.below bv0
            replace HA : Hid (BkA (g5 + 1) v0 (.slice (some ⟨gp, 0, none⟩) nb2 bc2) nb2 X2 Y2 K2 V2 AA CC) := HA.out.below bv0
            replace HS : Hid (Beside r w v0) := HS.out.trans (Beside.of bv0)
            replace HR : Hid (∃ q, Rd v0 r s n c q) := by obtain ⟨q_, R_⟩ := HR.out; exact ⟨q_, R_.below bv0⟩
            have HBv : Hid (Below v0.heap.size v0 v0) := Below.refl _ _
            clear bv0
            refine wpAnyH_take (i := 0) (v := .pointer (some ⟨g5, 0, none⟩)) rfl (by kernel_rfl) (by kernel_rfl) (by kernel_rfl) (fun _ _ _ h => h) (Or.inl ⟨by kernel_rfl, ?_⟩) hHeld ?_
            · intro w' hSw
              obtain ⟨hc0, hz0⟩ := hSw
              first | (go_simp; done) | (go_simp; with_reducible rfl) | (go_simp; rw [IntKind.wrap_i64]; omega) | (go_simp; omega)
            simp only [Act.put, List.setIfInBounds_toArray, List.set_cons_zero, List.set_cons_succ]
            refine wpAnyH_take (i := 1) (v := .slice (some ⟨gp, 0, none⟩) nb2 bc2) rfl (by kernel_rfl) (by kernel_rfl) (by kernel_rfl) (fun _ _ _ h => h) (Or.inl ⟨by kernel_rfl, ?_⟩) hHeld ?_
            · intro w' hSw
              obtain ⟨hc0, hz0⟩ := hSw
              first | (go_simp; done) | (go_simp; with_reducible rfl) | (go_simp; rw [IntKind.wrap_i64]; omega) | (go_simp; omega)
            simp only [Act.put, List.setIfInBounds_toArray, List.set_cons_zero, List.set_cons_succ]
            refine wpAnyH_take (i := 3) (v := .pointer (some ⟨g5, 0, none⟩)) rfl (by kernel_rfl) (by kernel_rfl) (by kernel_rfl) (fun _ _ _ h => h) (Or.inl ⟨by kernel_rfl, ?_⟩) hHeld ?_
            · intro w' hSw
              obtain ⟨hc0, hz0⟩ := hSw
              first | (go_simp; done) | (go_simp; with_reducible rfl) | (go_simp; rw [IntKind.wrap_i64]; omega) | (go_simp; omega)
            simp only [Act.put, List.setIfInBounds_toArray, List.set_cons_zero, List.set_cons_succ]
            refine wpAnyH_take (i := 4) (v := .slice (some ⟨gp, 0, none⟩) nb2 bc2) rfl (by kernel_rfl) (by kernel_rfl) (by kernel_rfl) (fun _ _ _ h => h) (Or.inl ⟨by kernel_rfl, ?_⟩) hHeld ?_
            · intro w' hSw
              obtain ⟨hc0, hz0⟩ := hSw
              first | (go_simp; done) | (go_simp; with_reducible rfl) | (go_simp; rw [IntKind.wrap_i64]; omega) | (go_simp; omega)
            simp only [Act.put, List.setIfInBounds_toArray, List.set_cons_zero, List.set_cons_succ]
            refine wpAnyH_take (i := 5) (v := .pointer (some ⟨gp, 0, none⟩)) rfl (by kernel_rfl) (by kernel_rfl) (by kernel_rfl) (fun _ _ _ h => h) (Or.inl ⟨by kernel_rfl, ?_⟩) hHeld ?_
            · intro w' hSw
              obtain ⟨hc0, hz0⟩ := hSw
              first | (go_simp; done) | (go_simp; with_reducible rfl) | (go_simp; rw [IntKind.wrap_i64]; omega) | (go_simp; omega)
            simp only [Act.put, List.setIfInBounds_toArray, List.set_cons_zero, List.set_cons_succ]
            refine wpAnyH_take (i := 6) (v := .pointer (some ⟨gp, 2, none⟩)) rfl (by kernel_rfl) (by kernel_rfl) (by kernel_rfl) (fun _ _ _ h => h) (Or.inl ⟨by kernel_rfl, ?_⟩) hHeld ?_
            · intro w' hSw
              obtain ⟨hc0, hz0⟩ := hSw
              first | (go_simp; done) | (go_simp; with_reducible rfl) | (go_simp; rw [IntKind.wrap_i64]; omega) | (go_simp; omega)
            simp only [Act.put, List.setIfInBounds_toArray, List.set_cons_zero, List.set_cons_succ]
            refine wpAnyH_take (i := 8) (v := .pointer (some ⟨g5, 0, none⟩)) rfl (by kernel_rfl) (by kernel_rfl) (by kernel_rfl) (fun _ _ _ h => h) (Or.inl ⟨by kernel_rfl, ?_⟩) hHeld ?_
            · intro w' hSw
              obtain ⟨hc0, hz0⟩ := hSw
              first | (go_simp; done) | (go_simp; with_reducible rfl) | (go_simp; rw [IntKind.wrap_i64]; omega) | (go_simp; omega)
            simp only [Act.put, List.setIfInBounds_toArray, List.set_cons_zero, List.set_cons_succ]
            refine wpAnyH_take (i := 9) (v := .slice (some ⟨gp, 0, none⟩) nb2 bc2) rfl (by kernel_rfl) (by kernel_rfl) (by kernel_rfl) (fun _ _ _ h => h) (Or.inl ⟨by kernel_rfl, ?_⟩) hHeld ?_
            · intro w' hSw
              obtain ⟨hc0, hz0⟩ := hSw
              first | (go_simp; done) | (go_simp; with_reducible rfl) | (go_simp; rw [IntKind.wrap_i64]; omega) | (go_simp; omega)
            simp only [Act.put, List.setIfInBounds_toArray, List.set_cons_zero, List.set_cons_succ]
            refine wpAnyH_take (i := 10) (v := .pointer (some ⟨gp, 0, none⟩)) rfl (by kernel_rfl) (by kernel_rfl) (by kernel_rfl) (fun _ _ _ h => h) (Or.inl ⟨by kernel_rfl, ?_⟩) hHeld ?_
            · intro w' hSw
              obtain ⟨hc0, hz0⟩ := hSw
              first | (go_simp; done) | (go_simp; with_reducible rfl) | (go_simp; rw [IntKind.wrap_i64]; omega) | (go_simp; omega)
            simp only [Act.put, List.setIfInBounds_toArray, List.set_cons_zero, List.set_cons_succ]
            refine wpAnyH_take (i := 11) (v := .pointer (some ⟨gp, 2, none⟩)) rfl (by kernel_rfl) (by kernel_rfl) (by kernel_rfl) (fun _ _ _ h => h) (Or.inl ⟨by kernel_rfl, ?_⟩) hHeld ?_
            · intro w' hSw
              obtain ⟨hc0, hz0⟩ := hSw
              first | (go_simp; done) | (go_simp; with_reducible rfl) | (go_simp; rw [IntKind.wrap_i64]; omega) | (go_simp; omega)
            simp only [Act.put, List.setIfInBounds_toArray, List.set_cons_zero, List.set_cons_succ]
            refine wpAnyH_ready (rs := [2, 7, 12]) (by kernel_rfl) (by simp) ?_
            refine (AllReadyH.cons rfl (fun KK hK => ?_) (AllReadyH.cons rfl (fun KK hK => ?_) (AllReadyH.cons rfl (fun KK hK => ?_) AllReadyH.nil)))
            · go_simp
              obtain ⟨v0_1, hv_⟩ : ∃ z, z = v0.alloc (.cells #[] 2) := ⟨_, rfl⟩
              rw [← hv_]
              obtain ⟨lb, hlb⟩ : ∃ z, z = v0.heap.size := ⟨_, rfl⟩
              have HLit : Hid (OwL lb v0_1 (.slice (some ⟨lb, 0, none⟩) 0 0) []) := by rw [hv_, hlb]; exact OwL.lit v0 (Nat.le_refl _)
              have zlb : v0.heap.size ≤ lb := by rw [hlb]; exact HBv.out.size
              have zlb2 : lb ≤ v0_1.heap.size := by rw [hv_, hlb]; simp
              have b_ : Below v0.heap.size v0 v0_1 := by rw [hv_]; exact below0 _ _
              replace HBv : Hid (Below v0.heap.size v0 v0_1) := HBv.out.trans (b_.mono HBv.out.size)
              try rw [← hlb]
              clear hv_ hlb b_
              refine hK.out _ _ (⟨(HBv.out.cell (p := ⟨g5, 0, none⟩) HB.out.1).trans (HB.out.2.2 0 _ rfl), Nat.lt_of_lt_of_le HB.out.1 HBv.out.size⟩) (fun hHeld => ?_)
              clear hK KK
              refine wpAnyH_ready (rs := [7, 12]) (by kernel_rfl) (by simp) ?_
              refine (AllReadyH.cons rfl (fun KK hK => ?_) (AllReadyH.cons rfl (fun KK hK => ?_) AllReadyH.nil))
              · have c_ : v0_1.cell? ⟨gp, 2, none⟩ = some (.slice (some ad) kk cc) := by
                  obtain ⟨_, eg, -, zg_, -, -, -, a2_⟩ := HA.out.at0 hn0
                  cases eg
                  rw [HE0.out.1, HE0.out.2.1, HE0.out.2.2] at a2_
                  exact (HBv.out.cell (p := ⟨gp, 2, none⟩) zg_).trans a2_
                go_simp
                clear c_
                refine hK.out _ _ (⟨(HBv.out.cell (p := ⟨g5, 0, none⟩) HB.out.1).trans (HB.out.2.2 0 _ rfl), Nat.lt_of_lt_of_le HB.out.1 HBv.out.size⟩) (fun hHeld => ?_)
                clear hK KK
                refine wpAnyH_ready (rs := [12]) (by kernel_rfl) (by simp) ?_
                refine (AllReadyH.cons rfl (fun KK hK => ?_) AllReadyH.nil)
                have c_ : v0_1.cell? ⟨gp, 2, none⟩ = some (.slice (some ad) kk cc) := by
                  obtain ⟨_, eg, -, zg_, -, -, -, a2_⟩ := HA.out.at0 hn0
                  cases eg
                  rw [HE0.out.1, HE0.out.2.1, HE0.out.2.2] at a2_
                  exact (HBv.out.cell (p := ⟨gp, 2, none⟩) zg_).trans a2_
                go_simp
                clear c_
                refine hK.out _ _ (⟨(HBv.out.cell (p := ⟨g5, 0, none⟩) HB.out.1).trans (HB.out.2.2 0 _ rfl), Nat.lt_of_lt_of_le HB.out.1 HBv.out.size⟩) (fun hHeld => ?_)
                clear hK KK
                refine wpAnyH_take (i := 13) (v := .int .i64 kk) rfl (by kernel_rfl) (by kernel_rfl) (by kernel_rfl) (fun _ _ _ h => h) (Or.inl ⟨by kernel_rfl, ?_⟩) hHeld ?_
                · intro w' hSw
                  obtain ⟨hc0, hz0⟩ := hSw
                  first | (go_simp; done) | (go_simp; with_reducible rfl) | (go_simp; rw [IntKind.wrap_i64]; omega) | (go_simp; omega)
                simp only [Act.put, List.setIfInBounds_toArray, List.set_cons_zero, List.set_cons_succ]
                refine wpAnyH_take (i := 14) (v := .int .i64 k2) rfl (by kernel_rfl) (by kernel_rfl) (by kernel_rfl) (fun _ _ _ h => h) (Or.inl ⟨by kernel_rfl, ?_⟩) hHeld ?_
                · intro w' hSw
                  obtain ⟨hc0, hz0⟩ := hSw
                  first | (go_simp; exact hwk) | (go_simp; done) | (go_simp; exact hdv) | (go_simp; rw [hdv]; done) | (go_simp; rfl) | (go_simp; rw [hdv, IntKind.wrap_i64]; omega) | (go_simp; omega)
                simp only [Act.put, List.setIfInBounds_toArray, List.set_cons_zero, List.set_cons_succ]
                refine wpAnyH_take (i := 15) (v := .slice (some ad) k2 cc) rfl (by kernel_rfl) (by kernel_rfl) (by kernel_rfl) (fun _ _ _ h => h) (Or.inl ⟨by kernel_rfl, ?_⟩) hHeld ?_
                · intro w' hSw
                  obtain ⟨hc0, hz0⟩ := hSw
                  first | (go_simp; done) | (go_simp; with_reducible rfl) | (go_simp; rw [IntKind.wrap_i64]; omega) | (go_simp; omega)
                simp only [Act.put, List.setIfInBounds_toArray, List.set_cons_zero, List.set_cons_succ]
                refine wpAnyH_ready (rs := [16]) (by kernel_rfl) (by simp) ?_
                refine (AllReadyH.cons rfl (fun KK hK => ?_) AllReadyH.nil)
                have HRI : Hid (RowI v0_1 (some ad) k2 (nthI (lsOf (V2 0) k2))) := by
                  have q_ := (HA.out.below HBv.out).rowI hn0 K20.out
                  rw [HE0.out.1] at q_
                  exact q_
                refine wp_joinL lb (.slice (some ⟨lb, 0, none⟩) 0 0) [] (some ad) k2 cc (lsOf (V2 0) k2) (.tmp 55) (.tmp 68) (by rfl) (by rfl) (by rfl) (ls_len _ _) (by omega) (by simp) zlb2 HLit.out HRI.out ?_
                intro s9 cap9 v0_4 l9 b9 _
                simp only [List.length_nil, Nat.zero_add, List.nil_append] at l9 ⊢
                have HO9 : Hid (OwL lb v0_4 (.slice s9 k2 cap9) (lsOf (V2 0) k2)) := l9
                replace HBv : Hid (Below v0.heap.size v0 v0_4) := HBv.out.trans (b9.mono zlb)
                clear l9 b9 HRI HLit
                go_simp
                refine hK.out _ _ (⟨(HBv.out.cell (p := ⟨g5, 0, none⟩) HB.out.1).trans (HB.out.2.2 0 _ rfl), Nat.lt_of_lt_of_le HB.out.1 HBv.out.size⟩) (fun hHeld => ?_)
                clear hK KK
                refine wpAnyH_take (i := 17) (v := .pointer (some ⟨gp, 0, none⟩)) rfl (by kernel_rfl) (by kernel_rfl) (by kernel_rfl) (fun _ _ _ h => h) (Or.inl ⟨by kernel_rfl, ?_⟩) hHeld ?_
                · intro w' hSw
                  obtain ⟨hc0, hz0⟩ := hSw
                  first | (go_simp; done) | (go_simp; with_reducible rfl) | (go_simp; rw [IntKind.wrap_i64]; omega) | (go_simp; omega)
                simp only [Act.put, List.setIfInBounds_toArray, List.set_cons_zero, List.set_cons_succ]
                refine wpAnyH_take (i := 18) (v := .pointer (some ⟨gp, 2, none⟩)) rfl (by kernel_rfl) (by kernel_rfl) (by kernel_rfl) (fun _ _ _ h => h) (Or.inl ⟨by kernel_rfl, ?_⟩) hHeld ?_
                · intro w' hSw
                  obtain ⟨hc0, hz0⟩ := hSw
                  first | (go_simp; done) | (go_simp; with_reducible rfl) | (go_simp; rw [IntKind.wrap_i64]; omega) | (go_simp; omega)
                simp only [Act.put, List.setIfInBounds_toArray, List.set_cons_zero, List.set_cons_succ]
                refine wpAnyH_ready (rs := [19]) (by kernel_rfl) (by simp) ?_
                refine (AllReadyH.cons rfl (fun KK hK => ?_) AllReadyH.nil)
                obtain ⟨_, eg, -, zg_, fg_, -, -, a2_⟩ := (HA.out.below HBv.out).at0 hn0
                cases eg
                have hst := store_slT
                go_simp
                obtain ⟨v0_5, hv_⟩ : ∃ z, z = v0_4.setCell ⟨gp, 2, none⟩ (.slice s9 k2 cap9) := ⟨_, rfl⟩
                rw [← hv_]
                have b5 : Beside gp v0_4 v0_5 := by rw [hv_]; exact Beside.setCell gp v0_4 2 _
                have HFw : Hid (BkF (g5 + 1) v0_4 (.slice (some ⟨gp, 0, none⟩) nb2 bc2) nb2 X2 Y2 K2 V2) := ⟨AA, CC, HA.out.below HBv.out⟩
                have HF : Hid (BkF (g5 + 1) v0_5 (.slice (some ⟨gp, 0, none⟩) nb2 bc2) nb2 X2 Y2 (atF 0 k2 K2) (atF 0 (V2 0) V2)) := by
                  obtain ⟨gi, hgi⟩ := HO9.out.inner
                  show BkF _ _ _ _ _ _ _ _
                  rw [hv_]
                  refine bk_cut HFw.out hn0 (owL_cap HO9.out (ls_len _ _)) (fun q => ?_)
                  obtain ⟨r1, r2, r3, r4, r5⟩ := hgi q
                  exact ⟨gi, r1, by have := HB.out.1; omega, r3, r4, fun j hj => (r5 j hj).1⟩
                replace HR : Hid (∃ q, Rd v0_5 r s n c q) := by obtain ⟨q_, R_⟩ := HR.out; exact ⟨q_, Rd.below' (R_.below HBv.out) (b5.below (by omega) (by omega))⟩
                replace HN : Hid (Blk v0_5 gn [.int .i64 P, .slice td nd kd, .slice ts ns ks]) := (HN.out.below HBv.out).beside b5 (by omega)
                replace HU : Hid (Blk v0_5 gu [.slice none 0 0]) := (HU.out.below HBv.out).beside b5 (by omega)
                replace HB : Hid (Blk v0_5 g5 [.slice (some ⟨gp, 0, none⟩) nb2 bc2]) := (HB.out.below HBv.out).beside b5 (by omega)
                have HSw : Hid (Beside r w v0_4) := HS.out.trans (Beside.of HBv.out)
                have zs_ := HSw.out.2.2.2.1
                replace HS : Hid (Beside r w v0_5) := HSw.out.onB (b5.below (by omega) zs_)
                clear hv_ b5 hst zg_ fg_ a2_ HFw HSw zs_ HO9
                refine hK.out _ _ (⟨HB.out.2.2 0 _ rfl, HB.out.1⟩) (fun hHeld => ?_)
                clear hK KK
                refine wpAnyH_done (by kernel_rfl) ?_ _
                clear hHeld
                have HKb2 : Hid (∀ i, i < nb2 → atF 0 k2 K2 i ≤ 70000) := fun i hi => by
                  unfold atF
                  split
                  · omega
                  · exact HKb.out i hi
                go_wp2_with fail
                go_meet
                exact ⟨_, _, _, _, _, _, _, by omega, HR, HS, HN, HU, HB, HF, HKb2⟩
              · have c_ : v0_1.cell? ⟨gp, 2, none⟩ = some (.slice (some ad) kk cc) := by
                  obtain ⟨_, eg, -, zg_, -, -, -, a2_⟩ := HA.out.at0 hn0
                  cases eg
                  rw [HE0.out.1, HE0.out.2.1, HE0.out.2.2] at a2_
                  exact (HBv.out.cell (p := ⟨gp, 2, none⟩) zg_).trans a2_
                go_simp
                clear c_
                refine hK.out _ _ (⟨(HBv.out.cell (p := ⟨g5, 0, none⟩) HB.out.1).trans (HB.out.2.2 0 _ rfl), Nat.lt_of_lt_of_le HB.out.1 HBv.out.size⟩) (fun hHeld => ?_)
                clear hK KK
                refine wpAnyH_take (i := 13) (v := .int .i64 kk) rfl (by kernel_rfl) (by kernel_rfl) (by kernel_rfl) (fun _ _ _ h => h) (Or.inl ⟨by kernel_rfl, ?_⟩) hHeld ?_
                · intro w' hSw
                  obtain ⟨hc0, hz0⟩ := hSw
                  first | (go_simp; done) | (go_simp; with_reducible rfl) | (go_simp; rw [IntKind.wrap_i64]; omega) | (go_simp; omega)
                simp only [Act.put, List.setIfInBounds_toArray, List.set_cons_zero, List.set_cons_succ]
                refine wpAnyH_take (i := 14) (v := .int .i64 k2) rfl (by kernel_rfl) (by kernel_rfl) (by kernel_rfl) (fun _ _ _ h => h) (Or.inl ⟨by kernel_rfl, ?_⟩) hHeld ?_
                · intro w' hSw
                  obtain ⟨hc0, hz0⟩ := hSw
                  first | (go_simp; exact hwk) | (go_simp; done) | (go_simp; exact hdv) | (go_simp; rw [hdv]; done) | (go_simp; rfl) | (go_simp; rw [hdv, IntKind.wrap_i64]; omega) | (go_simp; omega)
                simp only [Act.put, List.setIfInBounds_toArray, List.set_cons_zero, List.set_cons_succ]
                refine wpAnyH_ready (rs := [7]) (by kernel_rfl) (by simp) ?_
                refine (AllReadyH.cons rfl (fun KK hK => ?_) AllReadyH.nil)
                have c_ : v0_1.cell? ⟨gp, 2, none⟩ = some (.slice (some ad) kk cc) := by
                  obtain ⟨_, eg, -, zg_, -, -, -, a2_⟩ := HA.out.at0 hn0
                  cases eg
                  rw [HE0.out.1, HE0.out.2.1, HE0.out.2.2] at a2_
                  exact (HBv.out.cell (p := ⟨gp, 2, none⟩) zg_).trans a2_
                go_simp
                clear c_
                refine hK.out _ _ (⟨(HBv.out.cell (p := ⟨g5, 0, none⟩) HB.out.1).trans (HB.out.2.2 0 _ rfl), Nat.lt_of_lt_of_le HB.out.1 HBv.out.size⟩) (fun hHeld => ?_)
                clear hK KK
                refine wpAnyH_take (i := 15) (v := .slice (some ad) k2 cc) rfl (by kernel_rfl) (by kernel_rfl) (by kernel_rfl) (fun _ _ _ h => h) (Or.inl ⟨by kernel_rfl, ?_⟩) hHeld ?_
                · intro w' hSw
                  obtain ⟨hc0, hz0⟩ := hSw
                  first | (go_simp; done) | (go_simp; with_reducible rfl) | (go_simp; rw [IntKind.wrap_i64]; omega) | (go_simp; omega)
                simp only [Act.put, List.setIfInBounds_toArray, List.set_cons_zero, List.set_cons_succ]
                refine wpAnyH_ready (rs := [16]) (by kernel_rfl) (by simp) ?_
                refine (AllReadyH.cons rfl (fun KK hK => ?_) AllReadyH.nil)
                have HRI : Hid (RowI v0_1 (some ad) k2 (nthI (lsOf (V2 0) k2))) := by
                  have q_ := (HA.out.below HBv.out).rowI hn0 K20.out
                  rw [HE0.out.1] at q_
                  exact q_
                refine wp_joinL lb (.slice (some ⟨lb, 0, none⟩) 0 0) [] (some ad) k2 cc (lsOf (V2 0) k2) (.tmp 55) (.tmp 68) (by rfl) (by rfl) (by rfl) (ls_len _ _) (by omega) (by simp) zlb2 HLit.out HRI.out ?_
                intro s9 cap9 v0_8 l9 b9 _
                simp only [List.length_nil, Nat.zero_add, List.nil_append] at l9 ⊢
                have HO9 : Hid (OwL lb v0_8 (.slice s9 k2 cap9) (lsOf (V2 0) k2)) := l9
                replace HBv : Hid (Below v0.heap.size v0 v0_8) := HBv.out.trans (b9.mono zlb)
                clear l9 b9 HRI HLit
                go_simp
                refine hK.out _ _ (⟨(HBv.out.cell (p := ⟨g5, 0, none⟩) HB.out.1).trans (HB.out.2.2 0 _ rfl), Nat.lt_of_lt_of_le HB.out.1 HBv.out.size⟩) (fun hHeld => ?_)
                clear hK KK
                refine wpAnyH_take (i := 17) (v := .pointer (some ⟨gp, 0, none⟩)) rfl (by kernel_rfl) (by kernel_rfl) (by kernel_rfl) (fun _ _ _ h => h) (Or.inl ⟨by kernel_rfl, ?_⟩) hHeld ?_
                · intro w' hSw
                  obtain ⟨hc0, hz0⟩ := hSw
                  first | (go_simp; done) | (go_simp; with_reducible rfl) | (go_simp; rw [IntKind.wrap_i64]; omega) | (go_simp; omega)
                simp only [Act.put, List.setIfInBounds_toArray, List.set_cons_zero, List.set_cons_succ]
                refine wpAnyH_take (i := 18) (v := .pointer (some ⟨gp, 2, none⟩)) rfl (by kernel_rfl) (by kernel_rfl) (by kernel_rfl) (fun _ _ _ h => h) (Or.inl ⟨by kernel_rfl, ?_⟩) hHeld ?_
                · intro w' hSw
                  obtain ⟨hc0, hz0⟩ := hSw
                  first | (go_simp; done) | (go_simp; with_reducible rfl) | (go_simp; rw [IntKind.wrap_i64]; omega) | (go_simp; omega)
                simp only [Act.put, List.setIfInBounds_toArray, List.set_cons_zero, List.set_cons_succ]
                refine wpAnyH_ready (rs := [19]) (by kernel_rfl) (by simp) ?_
                refine (AllReadyH.cons rfl (fun KK hK => ?_) AllReadyH.nil)
                obtain ⟨_, eg, -, zg_, fg_, -, -, a2_⟩ := (HA.out.below HBv.out).at0 hn0
                cases eg
                have hst := store_slT
                go_simp
                obtain ⟨v0_9, hv_⟩ : ∃ z, z = v0_8.setCell ⟨gp, 2, none⟩ (.slice s9 k2 cap9) := ⟨_, rfl⟩
                rw [← hv_]
                have b5 : Beside gp v0_8 v0_9 := by rw [hv_]; exact Beside.setCell gp v0_8 2 _
                have HFw : Hid (BkF (g5 + 1) v0_8 (.slice (some ⟨gp, 0, none⟩) nb2 bc2) nb2 X2 Y2 K2 V2) := ⟨AA, CC, HA.out.below HBv.out⟩
                have HF : Hid (BkF (g5 + 1) v0_9 (.slice (some ⟨gp, 0, none⟩) nb2 bc2) nb2 X2 Y2 (atF 0 k2 K2) (atF 0 (V2 0) V2)) := by
                  obtain ⟨gi, hgi⟩ := HO9.out.inner
                  show BkF _ _ _ _ _ _ _ _
                  rw [hv_]
                  refine bk_cut HFw.out hn0 (owL_cap HO9.out (ls_len _ _)) (fun q => ?_)
                  obtain ⟨r1, r2, r3, r4, r5⟩ := hgi q
                  exact ⟨gi, r1, by have := HB.out.1; omega, r3, r4, fun j hj => (r5 j hj).1⟩
                replace HR : Hid (∃ q, Rd v0_9 r s n c q) := by obtain ⟨q_, R_⟩ := HR.out; exact ⟨q_, Rd.below' (R_.below HBv.out) (b5.below (by omega) (by omega))⟩
                replace HN : Hid (Blk v0_9 gn [.int .i64 P, .slice td nd kd, .slice ts ns ks]) := (HN.out.below HBv.out).beside b5 (by omega)
                replace HU : Hid (Blk v0_9 gu [.slice none 0 0]) := (HU.out.below HBv.out).beside b5 (by omega)
                replace HB : Hid (Blk v0_9 g5 [.slice (some ⟨gp, 0, none⟩) nb2 bc2]) := (HB.out.below HBv.out).beside b5 (by omega)
                have HSw : Hid (Beside r w v0_8) := HS.out.trans (Beside.of HBv.out)
                have zs_ := HSw.out.2.2.2.1
                replace HS : Hid (Beside r w v0_9) := HSw.out.onB (b5.below (by omega) zs_)
                clear hv_ b5 hst zg_ fg_ a2_ HFw HSw zs_ HO9
                refine hK.out _ _ (⟨HB.out.2.2 0 _ rfl, HB.out.1⟩) (fun hHeld => ?_)
                clear hK KK
                refine wpAnyH_done (by kernel_rfl) ?_ _
                clear hHeld
                have HKb2 : Hid (∀ i, i < nb2 → atF 0 k2 K2 i ≤ 70000) := fun i hi => by
                  unfold atF
                  split
                  · omega
                  · exact HKb.out i hi
                go_wp2_with fail
                go_meet
                exact ⟨_, _, _, _, _, _, _, by omega, HR, HS, HN, HU, HB, HF, HKb2⟩
            · have c_ : v0.cell? ⟨gp, 2, none⟩ = some (.slice (some ad) kk cc) := by
                obtain ⟨_, eg, -, zg_, -, -, -, a2_⟩ := HA.out.at0 hn0
                cases eg
                rw [HE0.out.1, HE0.out.2.1, HE0.out.2.2] at a2_
                exact (HBv.out.cell (p := ⟨gp, 2, none⟩) zg_).trans a2_
              go_simp
              clear c_
              refine hK.out _ _ (⟨(HBv.out.cell (p := ⟨g5, 0, none⟩) HB.out.1).trans (HB.out.2.2 0 _ rfl), Nat.lt_of_lt_of_le HB.out.1 HBv.out.size⟩) (fun hHeld => ?_)
              clear hK KK
              refine wpAnyH_ready (rs := [2, 12]) (by kernel_rfl) (by simp) ?_
              refine (AllReadyH.cons rfl (fun KK hK => ?_) (AllReadyH.cons rfl (fun KK hK => ?_) AllReadyH.nil))
              · go_simp
                obtain ⟨v0_11, hv_⟩ : ∃ z, z = v0.alloc (.cells #[] 2) := ⟨_, rfl⟩
                rw [← hv_]
                obtain ⟨lb, hlb⟩ : ∃ z, z = v0.heap.size := ⟨_, rfl⟩
                have HLit : Hid (OwL lb v0_11 (.slice (some ⟨lb, 0, none⟩) 0 0) []) := by rw [hv_, hlb]; exact OwL.lit v0 (Nat.le_refl _)
                have zlb : v0.heap.size ≤ lb := by rw [hlb]; exact HBv.out.size
                have zlb2 : lb ≤ v0_11.heap.size := by rw [hv_, hlb]; simp
                have b_ : Below v0.heap.size v0 v0_11 := by rw [hv_]; exact below0 _ _
                replace HBv : Hid (Below v0.heap.size v0 v0_11) := HBv.out.trans (b_.mono HBv.out.size)
                try rw [← hlb]
                clear hv_ hlb b_
                refine hK.out _ _ (⟨(HBv.out.cell (p := ⟨g5, 0, none⟩) HB.out.1).trans (HB.out.2.2 0 _ rfl), Nat.lt_of_lt_of_le HB.out.1 HBv.out.size⟩) (fun hHeld => ?_)
                clear hK KK
                refine wpAnyH_ready (rs := [12]) (by kernel_rfl) (by simp) ?_
                refine (AllReadyH.cons rfl (fun KK hK => ?_) AllReadyH.nil)
                have c_ : v0_11.cell? ⟨gp, 2, none⟩ = some (.slice (some ad) kk cc) := by
                  obtain ⟨_, eg, -, zg_, -, -, -, a2_⟩ := HA.out.at0 hn0
                  cases eg
                  rw [HE0.out.1, HE0.out.2.1, HE0.out.2.2] at a2_
                  exact (HBv.out.cell (p := ⟨gp, 2, none⟩) zg_).trans a2_
                go_simp
                clear c_
                refine hK.out _ _ (⟨(HBv.out.cell (p := ⟨g5, 0, none⟩) HB.out.1).trans (HB.out.2.2 0 _ rfl), Nat.lt_of_lt_of_le HB.out.1 HBv.out.size⟩) (fun hHeld => ?_)
                clear hK KK
                refine wpAnyH_take (i := 13) (v := .int .i64 kk) rfl (by kernel_rfl) (by kernel_rfl) (by kernel_rfl) (fun _ _ _ h => h) (Or.inl ⟨by kernel_rfl, ?_⟩) hHeld ?_
                · intro w' hSw
                  obtain ⟨hc0, hz0⟩ := hSw
                  first | (go_simp; done) | (go_simp; with_reducible rfl) | (go_simp; rw [IntKind.wrap_i64]; omega) | (go_simp; omega)
                simp only [Act.put, List.setIfInBounds_toArray, List.set_cons_zero, List.set_cons_succ]
                refine wpAnyH_take (i := 14) (v := .int .i64 k2) rfl (by kernel_rfl) (by kernel_rfl) (by kernel_rfl) (fun _ _ _ h => h) (Or.inl ⟨by kernel_rfl, ?_⟩) hHeld ?_
                · intro w' hSw
                  obtain ⟨hc0, hz0⟩ := hSw
                  first | (go_simp; exact hwk) | (go_simp; done) | (go_simp; exact hdv) | (go_simp; rw [hdv]; done) | (go_simp; rfl) | (go_simp; rw [hdv, IntKind.wrap_i64]; omega) | (go_simp; omega)
                simp only [Act.put, List.setIfInBounds_toArray, List.set_cons_zero, List.set_cons_succ]
                refine wpAnyH_take (i := 15) (v := .slice (some ad) k2 cc) rfl (by kernel_rfl) (by kernel_rfl) (by kernel_rfl) (fun _ _ _ h => h) (Or.inl ⟨by kernel_rfl, ?_⟩) hHeld ?_
                · intro w' hSw
                  obtain ⟨hc0, hz0⟩ := hSw
                  first | (go_simp; done) | (go_simp; with_reducible rfl) | (go_simp; rw [IntKind.wrap_i64]; omega) | (go_simp; omega)
                simp only [Act.put, List.setIfInBounds_toArray, List.set_cons_zero, List.set_cons_succ]
                refine wpAnyH_ready (rs := [16]) (by kernel_rfl) (by simp) ?_
                refine (AllReadyH.cons rfl (fun KK hK => ?_) AllReadyH.nil)
                have HRI : Hid (RowI v0_11 (some ad) k2 (nthI (lsOf (V2 0) k2))) := by
                  have q_ := (HA.out.below HBv.out).rowI hn0 K20.out
                  rw [HE0.out.1] at q_
                  exact q_
                refine wp_joinL lb (.slice (some ⟨lb, 0, none⟩) 0 0) [] (some ad) k2 cc (lsOf (V2 0) k2) (.tmp 55) (.tmp 68) (by rfl) (by rfl) (by rfl) (ls_len _ _) (by omega) (by simp) zlb2 HLit.out HRI.out ?_
                intro s9 cap9 v0_13 l9 b9 _
                simp only [List.length_nil, Nat.zero_add, List.nil_append] at l9 ⊢
                have HO9 : Hid (OwL lb v0_13 (.slice s9 k2 cap9) (lsOf (V2 0) k2)) := l9
                replace HBv : Hid (Below v0.heap.size v0 v0_13) := HBv.out.trans (b9.mono zlb)
                clear l9 b9 HRI HLit
                go_simp
                refine hK.out _ _ (⟨(HBv.out.cell (p := ⟨g5, 0, none⟩) HB.out.1).trans (HB.out.2.2 0 _ rfl), Nat.lt_of_lt_of_le HB.out.1 HBv.out.size⟩) (fun hHeld => ?_)
                clear hK KK
                refine wpAnyH_take (i := 17) (v := .pointer (some ⟨gp, 0, none⟩)) rfl (by kernel_rfl) (by kernel_rfl) (by kernel_rfl) (fun _ _ _ h => h) (Or.inl ⟨by kernel_rfl, ?_⟩) hHeld ?_
                · intro w' hSw
                  obtain ⟨hc0, hz0⟩ := hSw
                  first | (go_simp; done) | (go_simp; with_reducible rfl) | (go_simp; rw [IntKind.wrap_i64]; omega) | (go_simp; omega)
                simp only [Act.put, List.setIfInBounds_toArray, List.set_cons_zero, List.set_cons_succ]
                refine wpAnyH_take (i := 18) (v := .pointer (some ⟨gp, 2, none⟩)) rfl (by kernel_rfl) (by kernel_rfl) (by kernel_rfl) (fun _ _ _ h => h) (Or.inl ⟨by kernel_rfl, ?_⟩) hHeld ?_
                · intro w' hSw
                  obtain ⟨hc0, hz0⟩ := hSw
                  first | (go_simp; done) | (go_simp; with_reducible rfl) | (go_simp; rw [IntKind.wrap_i64]; omega) | (go_simp; omega)
                simp only [Act.put, List.setIfInBounds_toArray, List.set_cons_zero, List.set_cons_succ]
                refine wpAnyH_ready (rs := [19]) (by kernel_rfl) (by simp) ?_
                refine (AllReadyH.cons rfl (fun KK hK => ?_) AllReadyH.nil)
                obtain ⟨_, eg, -, zg_, fg_, -, -, a2_⟩ := (HA.out.below HBv.out).at0 hn0
                cases eg
                have hst := store_slT
                go_simp
                obtain ⟨v0_14, hv_⟩ : ∃ z, z = v0_13.setCell ⟨gp, 2, none⟩ (.slice s9 k2 cap9) := ⟨_, rfl⟩
                rw [← hv_]
                have b5 : Beside gp v0_13 v0_14 := by rw [hv_]; exact Beside.setCell gp v0_13 2 _
                have HFw : Hid (BkF (g5 + 1) v0_13 (.slice (some ⟨gp, 0, none⟩) nb2 bc2) nb2 X2 Y2 K2 V2) := ⟨AA, CC, HA.out.below HBv.out⟩
                have HF : Hid (BkF (g5 + 1) v0_14 (.slice (some ⟨gp, 0, none⟩) nb2 bc2) nb2 X2 Y2 (atF 0 k2 K2) (atF 0 (V2 0) V2)) := by
                  obtain ⟨gi, hgi⟩ := HO9.out.inner
                  show BkF _ _ _ _ _ _ _ _
                  rw [hv_]
                  refine bk_cut HFw.out hn0 (owL_cap HO9.out (ls_len _ _)) (fun q => ?_)
                  obtain ⟨r1, r2, r3, r4, r5⟩ := hgi q
                  exact ⟨gi, r1, by have := HB.out.1; omega, r3, r4, fun j hj => (r5 j hj).1⟩
                replace HR : Hid (∃ q, Rd v0_14 r s n c q) := by obtain ⟨q_, R_⟩ := HR.out; exact ⟨q_, Rd.below' (R_.below HBv.out) (b5.below (by omega) (by omega))⟩
                replace HN : Hid (Blk v0_14 gn [.int .i64 P, .slice td nd kd, .slice ts ns ks]) := (HN.out.below HBv.out).beside b5 (by omega)
                replace HU : Hid (Blk v0_14 gu [.slice none 0 0]) := (HU.out.below HBv.out).beside b5 (by omega)
                replace HB : Hid (Blk v0_14 g5 [.slice (some ⟨gp, 0, none⟩) nb2 bc2]) := (HB.out.below HBv.out).beside b5 (by omega)
                have HSw : Hid (Beside r w v0_13) := HS.out.trans (Beside.of HBv.out)
                have zs_ := HSw.out.2.2.2.1
                replace HS : Hid (Beside r w v0_14) := HSw.out.onB (b5.below (by omega) zs_)
                clear hv_ b5 hst zg_ fg_ a2_ HFw HSw zs_ HO9
                refine hK.out _ _ (⟨HB.out.2.2 0 _ rfl, HB.out.1⟩) (fun hHeld => ?_)
                clear hK KK
                refine wpAnyH_done (by kernel_rfl) ?_ _
                clear hHeld
                have HKb2 : Hid (∀ i, i < nb2 → atF 0 k2 K2 i ≤ 70000) := fun i hi => by
                  unfold atF
                  split
                  · omega
                  · exact HKb.out i hi
                go_wp2_with fail
                go_meet
                exact ⟨_, _, _, _, _, _, _, by omega, HR, HS, HN, HU, HB, HF, HKb2⟩
              · have c_ : v0.cell? ⟨gp, 2, none⟩ = some (.slice (some ad) kk cc) := by
                  obtain ⟨_, eg, -, zg_, -, -, -, a2_⟩ := HA.out.at0 hn0
                  cases eg
                  rw [HE0.out.1, HE0.out.2.1, HE0.out.2.2] at a2_
                  exact (HBv.out.cell (p := ⟨gp, 2, none⟩) zg_).trans a2_
                go_simp
                clear c_
                refine hK.out _ _ (⟨(HBv.out.cell (p := ⟨g5, 0, none⟩) HB.out.1).trans (HB.out.2.2 0 _ rfl), Nat.lt_of_lt_of_le HB.out.1 HBv.out.size⟩) (fun hHeld => ?_)
                clear hK KK
                refine wpAnyH_take (i := 13) (v := .int .i64 kk) rfl (by kernel_rfl) (by kernel_rfl) (by kernel_rfl) (fun _ _ _ h => h) (Or.inl ⟨by kernel_rfl, ?_⟩) hHeld ?_
                · intro w' hSw
                  obtain ⟨hc0, hz0⟩ := hSw
                  first | (go_simp; done) | (go_simp; with_reducible rfl) | (go_simp; rw [IntKind.wrap_i64]; omega) | (go_simp; omega)
                simp only [Act.put, List.setIfInBounds_toArray, List.set_cons_zero, List.set_cons_succ]
                refine wpAnyH_take (i := 14) (v := .int .i64 k2) rfl (by kernel_rfl) (by kernel_rfl) (by kernel_rfl) (fun _ _ _ h => h) (Or.inl ⟨by kernel_rfl, ?_⟩) hHeld ?_
                · intro w' hSw
                  obtain ⟨hc0, hz0⟩ := hSw
                  first | (go_simp; exact hwk) | (go_simp; done) | (go_simp; exact hdv) | (go_simp; rw [hdv]; done) | (go_simp; rfl) | (go_simp; rw [hdv, IntKind.wrap_i64]; omega) | (go_simp; omega)
                simp only [Act.put, List.setIfInBounds_toArray, List.set_cons_zero, List.set_cons_succ]
                refine wpAnyH_take (i := 15) (v := .slice (some ad) k2 cc) rfl (by kernel_rfl) (by kernel_rfl) (by kernel_rfl) (fun _ _ _ h => h) (Or.inl ⟨by kernel_rfl, ?_⟩) hHeld ?_
                · intro w' hSw
                  obtain ⟨hc0, hz0⟩ := hSw
                  first | (go_simp; done) | (go_simp; with_reducible rfl) | (go_simp; rw [IntKind.wrap_i64]; omega) | (go_simp; omega)
                simp only [Act.put, List.setIfInBounds_toArray, List.set_cons_zero, List.set_cons_succ]
                refine wpAnyH_ready (rs := [2]) (by kernel_rfl) (by simp) ?_
                refine (AllReadyH.cons rfl (fun KK hK => ?_) AllReadyH.nil)
                go_simp
                obtain ⟨v0_16, hv_⟩ : ∃ z, z = v0.alloc (.cells #[] 2) := ⟨_, rfl⟩
                rw [← hv_]
                obtain ⟨lb, hlb⟩ : ∃ z, z = v0.heap.size := ⟨_, rfl⟩
                have HLit : Hid (OwL lb v0_16 (.slice (some ⟨lb, 0, none⟩) 0 0) []) := by rw [hv_, hlb]; exact OwL.lit v0 (Nat.le_refl _)
                have zlb : v0.heap.size ≤ lb := by rw [hlb]; exact HBv.out.size
                have zlb2 : lb ≤ v0_16.heap.size := by rw [hv_, hlb]; simp
                have b_ : Below v0.heap.size v0 v0_16 := by rw [hv_]; exact below0 _ _
                replace HBv : Hid (Below v0.heap.size v0 v0_16) := HBv.out.trans (b_.mono HBv.out.size)
                try rw [← hlb]
                clear hv_ hlb b_
                refine hK.out _ _ (⟨(HBv.out.cell (p := ⟨g5, 0, none⟩) HB.out.1).trans (HB.out.2.2 0 _ rfl), Nat.lt_of_lt_of_le HB.out.1 HBv.out.size⟩) (fun hHeld => ?_)
                clear hK KK
                refine wpAnyH_ready (rs := [16]) (by kernel_rfl) (by simp) ?_
                refine (AllReadyH.cons rfl (fun KK hK => ?_) AllReadyH.nil)
                have HRI : Hid (RowI v0_16 (some ad) k2 (nthI (lsOf (V2 0) k2))) := by
                  have q_ := (HA.out.below HBv.out).rowI hn0 K20.out
                  rw [HE0.out.1] at q_
                  exact q_
                refine wp_joinL lb (.slice (some ⟨lb, 0, none⟩) 0 0) [] (some ad) k2 cc (lsOf (V2 0) k2) (.tmp 55) (.tmp 68) (by rfl) (by rfl) (by rfl) (ls_len _ _) (by omega) (by simp) zlb2 HLit.out HRI.out ?_
                intro s9 cap9 v0_17 l9 b9 _
                simp only [List.length_nil, Nat.zero_add, List.nil_append] at l9 ⊢
                have HO9 : Hid (OwL lb v0_17 (.slice s9 k2 cap9) (lsOf (V2 0) k2)) := l9
                replace HBv : Hid (Below v0.heap.size v0 v0_17) := HBv.out.trans (b9.mono zlb)
                clear l9 b9 HRI HLit
                go_simp
                refine hK.out _ _ (⟨(HBv.out.cell (p := ⟨g5, 0, none⟩) HB.out.1).trans (HB.out.2.2 0 _ rfl), Nat.lt_of_lt_of_le HB.out.1 HBv.out.size⟩) (fun hHeld => ?_)
                clear hK KK
                refine wpAnyH_take (i := 17) (v := .pointer (some ⟨gp, 0, none⟩)) rfl (by kernel_rfl) (by kernel_rfl) (by kernel_rfl) (fun _ _ _ h => h) (Or.inl ⟨by kernel_rfl, ?_⟩) hHeld ?_
                · intro w' hSw
                  obtain ⟨hc0, hz0⟩ := hSw
                  first | (go_simp; done) | (go_simp; with_reducible rfl) | (go_simp; rw [IntKind.wrap_i64]; omega) | (go_simp; omega)
                simp only [Act.put, List.setIfInBounds_toArray, List.set_cons_zero, List.set_cons_succ]
                refine wpAnyH_take (i := 18) (v := .pointer (some ⟨gp, 2, none⟩)) rfl (by kernel_rfl) (by kernel_rfl) (by kernel_rfl) (fun _ _ _ h => h) (Or.inl ⟨by kernel_rfl, ?_⟩) hHeld ?_
                · intro w' hSw
                  obtain ⟨hc0, hz0⟩ := hSw
                  first | (go_simp; done) | (go_simp; with_reducible rfl) | (go_simp; rw [IntKind.wrap_i64]; omega) | (go_simp; omega)
                simp only [Act.put, List.setIfInBounds_toArray, List.set_cons_zero, List.set_cons_succ]
                refine wpAnyH_ready (rs := [19]) (by kernel_rfl) (by simp) ?_
                refine (AllReadyH.cons rfl (fun KK hK => ?_) AllReadyH.nil)
                obtain ⟨_, eg, -, zg_, fg_, -, -, a2_⟩ := (HA.out.below HBv.out).at0 hn0
                cases eg
                have hst := store_slT
                go_simp
                obtain ⟨v0_18, hv_⟩ : ∃ z, z = v0_17.setCell ⟨gp, 2, none⟩ (.slice s9 k2 cap9) := ⟨_, rfl⟩
                rw [← hv_]
                have b5 : Beside gp v0_17 v0_18 := by rw [hv_]; exact Beside.setCell gp v0_17 2 _
                have HFw : Hid (BkF (g5 + 1) v0_17 (.slice (some ⟨gp, 0, none⟩) nb2 bc2) nb2 X2 Y2 K2 V2) := ⟨AA, CC, HA.out.below HBv.out⟩
                have HF : Hid (BkF (g5 + 1) v0_18 (.slice (some ⟨gp, 0, none⟩) nb2 bc2) nb2 X2 Y2 (atF 0 k2 K2) (atF 0 (V2 0) V2)) := by
                  obtain ⟨gi, hgi⟩ := HO9.out.inner
                  show BkF _ _ _ _ _ _ _ _
                  rw [hv_]
                  refine bk_cut HFw.out hn0 (owL_cap HO9.out (ls_len _ _)) (fun q => ?_)
                  obtain ⟨r1, r2, r3, r4, r5⟩ := hgi q
                  exact ⟨gi, r1, by have := HB.out.1; omega, r3, r4, fun j hj => (r5 j hj).1⟩
                replace HR : Hid (∃ q, Rd v0_18 r s n c q) := by obtain ⟨q_, R_⟩ := HR.out; exact ⟨q_, Rd.below' (R_.below HBv.out) (b5.below (by omega) (by omega))⟩
                replace HN : Hid (Blk v0_18 gn [.int .i64 P, .slice td nd kd, .slice ts ns ks]) := (HN.out.below HBv.out).beside b5 (by omega)
                replace HU : Hid (Blk v0_18 gu [.slice none 0 0]) := (HU.out.below HBv.out).beside b5 (by omega)
                replace HB : Hid (Blk v0_18 g5 [.slice (some ⟨gp, 0, none⟩) nb2 bc2]) := (HB.out.below HBv.out).beside b5 (by omega)
                have HSw : Hid (Beside r w v0_17) := HS.out.trans (Beside.of HBv.out)
                have zs_ := HSw.out.2.2.2.1
                replace HS : Hid (Beside r w v0_18) := HSw.out.onB (b5.below (by omega) zs_)
                clear hv_ b5 hst zg_ fg_ a2_ HFw HSw zs_ HO9
                refine hK.out _ _ (⟨HB.out.2.2 0 _ rfl, HB.out.1⟩) (fun hHeld => ?_)
                clear hK KK
                refine wpAnyH_done (by kernel_rfl) ?_ _
                clear hHeld
                have HKb2 : Hid (∀ i, i < nb2 → atF 0 k2 K2 i ≤ 70000) := fun i hi => by
                  unfold atF
                  split
                  · omega
                  · exact HKb.out i hi
                go_wp2_with fail
                go_meet
                exact ⟨_, _, _, _, _, _, _, by omega, HR, HS, HN, HU, HB, HF, HKb2⟩
            · have c_ : v0.cell? ⟨gp, 2, none⟩ = some (.slice (some ad) kk cc) := by
                obtain ⟨_, eg, -, zg_, -, -, -, a2_⟩ := HA.out.at0 hn0
                cases eg
                rw [HE0.out.1, HE0.out.2.1, HE0.out.2.2] at a2_
                exact (HBv.out.cell (p := ⟨gp, 2, none⟩) zg_).trans a2_
              go_simp
              clear c_
              refine hK.out _ _ (⟨(HBv.out.cell (p := ⟨g5, 0, none⟩) HB.out.1).trans (HB.out.2.2 0 _ rfl), Nat.lt_of_lt_of_le HB.out.1 HBv.out.size⟩) (fun hHeld => ?_)
              clear hK KK
              refine wpAnyH_take (i := 13) (v := .int .i64 kk) rfl (by kernel_rfl) (by kernel_rfl) (by kernel_rfl) (fun _ _ _ h => h) (Or.inl ⟨by kernel_rfl, ?_⟩) hHeld ?_
              · intro w' hSw
                obtain ⟨hc0, hz0⟩ := hSw
                first | (go_simp; done) | (go_simp; with_reducible rfl) | (go_simp; rw [IntKind.wrap_i64]; omega) | (go_simp; omega)
              simp only [Act.put, List.setIfInBounds_toArray, List.set_cons_zero, List.set_cons_succ]
              refine wpAnyH_take (i := 14) (v := .int .i64 k2) rfl (by kernel_rfl) (by kernel_rfl) (by kernel_rfl) (fun _ _ _ h => h) (Or.inl ⟨by kernel_rfl, ?_⟩) hHeld ?_
              · intro w' hSw
                obtain ⟨hc0, hz0⟩ := hSw
                first | (go_simp; exact hwk) | (go_simp; done) | (go_simp; exact hdv) | (go_simp; rw [hdv]; done) | (go_simp; rfl) | (go_simp; rw [hdv, IntKind.wrap_i64]; omega) | (go_simp; omega)
              simp only [Act.put, List.setIfInBounds_toArray, List.set_cons_zero, List.set_cons_succ]
              refine wpAnyH_ready (rs := [2, 7]) (by kernel_rfl) (by simp) ?_
              refine (AllReadyH.cons rfl (fun KK hK => ?_) (AllReadyH.cons rfl (fun KK hK => ?_) AllReadyH.nil))
              · go_simp
                obtain ⟨v0_20, hv_⟩ : ∃ z, z = v0.alloc (.cells #[] 2) := ⟨_, rfl⟩
                rw [← hv_]
                obtain ⟨lb, hlb⟩ : ∃ z, z = v0.heap.size := ⟨_, rfl⟩
                have HLit : Hid (OwL lb v0_20 (.slice (some ⟨lb, 0, none⟩) 0 0) []) := by rw [hv_, hlb]; exact OwL.lit v0 (Nat.le_refl _)
                have zlb : v0.heap.size ≤ lb := by rw [hlb]; exact HBv.out.size
                have zlb2 : lb ≤ v0_20.heap.size := by rw [hv_, hlb]; simp
                have b_ : Below v0.heap.size v0 v0_20 := by rw [hv_]; exact below0 _ _
                replace HBv : Hid (Below v0.heap.size v0 v0_20) := HBv.out.trans (b_.mono HBv.out.size)
                try rw [← hlb]
                clear hv_ hlb b_
                refine hK.out _ _ (⟨(HBv.out.cell (p := ⟨g5, 0, none⟩) HB.out.1).trans (HB.out.2.2 0 _ rfl), Nat.lt_of_lt_of_le HB.out.1 HBv.out.size⟩) (fun hHeld => ?_)
                clear hK KK
                refine wpAnyH_ready (rs := [7]) (by kernel_rfl) (by simp) ?_
                refine (AllReadyH.cons rfl (fun KK hK => ?_) AllReadyH.nil)
                have c_ : v0_20.cell? ⟨gp, 2, none⟩ = some (.slice (some ad) kk cc) := by
                  obtain ⟨_, eg, -, zg_, -, -, -, a2_⟩ := HA.out.at0 hn0
                  cases eg
                  rw [HE0.out.1, HE0.out.2.1, HE0.out.2.2] at a2_
                  exact (HBv.out.cell (p := ⟨gp, 2, none⟩) zg_).trans a2_
                go_simp
                clear c_
                refine hK.out _ _ (⟨(HBv.out.cell (p := ⟨g5, 0, none⟩) HB.out.1).trans (HB.out.2.2 0 _ rfl), Nat.lt_of_lt_of_le HB.out.1 HBv.out.size⟩) (fun hHeld => ?_)
                clear hK KK
                refine wpAnyH_take (i := 15) (v := .slice (some ad) k2 cc) rfl (by kernel_rfl) (by kernel_rfl) (by kernel_rfl) (fun _ _ _ h => h) (Or.inl ⟨by kernel_rfl, ?_⟩) hHeld ?_
                · intro w' hSw
                  obtain ⟨hc0, hz0⟩ := hSw
                  first | (go_simp; done) | (go_simp; with_reducible rfl) | (go_simp; rw [IntKind.wrap_i64]; omega) | (go_simp; omega)
                simp only [Act.put, List.setIfInBounds_toArray, List.set_cons_zero, List.set_cons_succ]
                refine wpAnyH_ready (rs := [16]) (by kernel_rfl) (by simp) ?_
                refine (AllReadyH.cons rfl (fun KK hK => ?_) AllReadyH.nil)
                have HRI : Hid (RowI v0_20 (some ad) k2 (nthI (lsOf (V2 0) k2))) := by
                  have q_ := (HA.out.below HBv.out).rowI hn0 K20.out
                  rw [HE0.out.1] at q_
                  exact q_
                refine wp_joinL lb (.slice (some ⟨lb, 0, none⟩) 0 0) [] (some ad) k2 cc (lsOf (V2 0) k2) (.tmp 55) (.tmp 68) (by rfl) (by rfl) (by rfl) (ls_len _ _) (by omega) (by simp) zlb2 HLit.out HRI.out ?_
                intro s9 cap9 v0_22 l9 b9 _
                simp only [List.length_nil, Nat.zero_add, List.nil_append] at l9 ⊢
                have HO9 : Hid (OwL lb v0_22 (.slice s9 k2 cap9) (lsOf (V2 0) k2)) := l9
                replace HBv : Hid (Below v0.heap.size v0 v0_22) := HBv.out.trans (b9.mono zlb)
                clear l9 b9 HRI HLit
                go_simp
                refine hK.out _ _ (⟨(HBv.out.cell (p := ⟨g5, 0, none⟩) HB.out.1).trans (HB.out.2.2 0 _ rfl), Nat.lt_of_lt_of_le HB.out.1 HBv.out.size⟩) (fun hHeld => ?_)
                clear hK KK
                refine wpAnyH_take (i := 17) (v := .pointer (some ⟨gp, 0, none⟩)) rfl (by kernel_rfl) (by kernel_rfl) (by kernel_rfl) (fun _ _ _ h => h) (Or.inl ⟨by kernel_rfl, ?_⟩) hHeld ?_
                · intro w' hSw
                  obtain ⟨hc0, hz0⟩ := hSw
                  first | (go_simp; done) | (go_simp; with_reducible rfl) | (go_simp; rw [IntKind.wrap_i64]; omega) | (go_simp; omega)
                simp only [Act.put, List.setIfInBounds_toArray, List.set_cons_zero, List.set_cons_succ]
                refine wpAnyH_take (i := 18) (v := .pointer (some ⟨gp, 2, none⟩)) rfl (by kernel_rfl) (by kernel_rfl) (by kernel_rfl) (fun _ _ _ h => h) (Or.inl ⟨by kernel_rfl, ?_⟩) hHeld ?_
                · intro w' hSw
                  obtain ⟨hc0, hz0⟩ := hSw
                  first | (go_simp; done) | (go_simp; with_reducible rfl) | (go_simp; rw [IntKind.wrap_i64]; omega) | (go_simp; omega)
                simp only [Act.put, List.setIfInBounds_toArray, List.set_cons_zero, List.set_cons_succ]
                refine wpAnyH_ready (rs := [19]) (by kernel_rfl) (by simp) ?_
                refine (AllReadyH.cons rfl (fun KK hK => ?_) AllReadyH.nil)
                obtain ⟨_, eg, -, zg_, fg_, -, -, a2_⟩ := (HA.out.below HBv.out).at0 hn0
                cases eg
                have hst := store_slT
                go_simp
                obtain ⟨v0_23, hv_⟩ : ∃ z, z = v0_22.setCell ⟨gp, 2, none⟩ (.slice s9 k2 cap9) := ⟨_, rfl⟩
                rw [← hv_]
                have b5 : Beside gp v0_22 v0_23 := by rw [hv_]; exact Beside.setCell gp v0_22 2 _
                have HFw : Hid (BkF (g5 + 1) v0_22 (.slice (some ⟨gp, 0, none⟩) nb2 bc2) nb2 X2 Y2 K2 V2) := ⟨AA, CC, HA.out.below HBv.out⟩
                have HF : Hid (BkF (g5 + 1) v0_23 (.slice (some ⟨gp, 0, none⟩) nb2 bc2) nb2 X2 Y2 (atF 0 k2 K2) (atF 0 (V2 0) V2)) := by
                  obtain ⟨gi, hgi⟩ := HO9.out.inner
                  show BkF _ _ _ _ _ _ _ _
                  rw [hv_]
                  refine bk_cut HFw.out hn0 (owL_cap HO9.out (ls_len _ _)) (fun q => ?_)
                  obtain ⟨r1, r2, r3, r4, r5⟩ := hgi q
                  exact ⟨gi, r1, by have := HB.out.1; omega, r3, r4, fun j hj => (r5 j hj).1⟩
                replace HR : Hid (∃ q, Rd v0_23 r s n c q) := by obtain ⟨q_, R_⟩ := HR.out; exact ⟨q_, Rd.below' (R_.below HBv.out) (b5.below (by omega) (by omega))⟩
                replace HN : Hid (Blk v0_23 gn [.int .i64 P, .slice td nd kd, .slice ts ns ks]) := (HN.out.below HBv.out).beside b5 (by omega)
                replace HU : Hid (Blk v0_23 gu [.slice none 0 0]) := (HU.out.below HBv.out).beside b5 (by omega)
                replace HB : Hid (Blk v0_23 g5 [.slice (some ⟨gp, 0, none⟩) nb2 bc2]) := (HB.out.below HBv.out).beside b5 (by omega)
                have HSw : Hid (Beside r w v0_22) := HS.out.trans (Beside.of HBv.out)
                have zs_ := HSw.out.2.2.2.1
                replace HS : Hid (Beside r w v0_23) := HSw.out.onB (b5.below (by omega) zs_)
                clear hv_ b5 hst zg_ fg_ a2_ HFw HSw zs_ HO9
                refine hK.out _ _ (⟨HB.out.2.2 0 _ rfl, HB.out.1⟩) (fun hHeld => ?_)
                clear hK KK
                refine wpAnyH_done (by kernel_rfl) ?_ _
                clear hHeld
                have HKb2 : Hid (∀ i, i < nb2 → atF 0 k2 K2 i ≤ 70000) := fun i hi => by
                  unfold atF
                  split
                  · omega
                  · exact HKb.out i hi
                go_wp2_with fail
                go_meet
                exact ⟨_, _, _, _, _, _, _, by omega, HR, HS, HN, HU, HB, HF, HKb2⟩
              · have c_ : v0.cell? ⟨gp, 2, none⟩ = some (.slice (some ad) kk cc) := by
                  obtain ⟨_, eg, -, zg_, -, -, -, a2_⟩ := HA.out.at0 hn0
                  cases eg
                  rw [HE0.out.1, HE0.out.2.1, HE0.out.2.2] at a2_
                  exact (HBv.out.cell (p := ⟨gp, 2, none⟩) zg_).trans a2_
                go_simp
                clear c_
                refine hK.out _ _ (⟨(HBv.out.cell (p := ⟨g5, 0, none⟩) HB.out.1).trans (HB.out.2.2 0 _ rfl), Nat.lt_of_lt_of_le HB.out.1 HBv.out.size⟩) (fun hHeld => ?_)
                clear hK KK
                refine wpAnyH_take (i := 15) (v := .slice (some ad) k2 cc) rfl (by kernel_rfl) (by kernel_rfl) (by kernel_rfl) (fun _ _ _ h => h) (Or.inl ⟨by kernel_rfl, ?_⟩) hHeld ?_
                · intro w' hSw
                  obtain ⟨hc0, hz0⟩ := hSw
                  first | (go_simp; done) | (go_simp; with_reducible rfl) | (go_simp; rw [IntKind.wrap_i64]; omega) | (go_simp; omega)
                simp only [Act.put, List.setIfInBounds_toArray, List.set_cons_zero, List.set_cons_succ]
                refine wpAnyH_ready (rs := [2]) (by kernel_rfl) (by simp) ?_
                refine (AllReadyH.cons rfl (fun KK hK => ?_) AllReadyH.nil)
                go_simp
                obtain ⟨v0_25, hv_⟩ : ∃ z, z = v0.alloc (.cells #[] 2) := ⟨_, rfl⟩
                rw [← hv_]
                obtain ⟨lb, hlb⟩ : ∃ z, z = v0.heap.size := ⟨_, rfl⟩
                have HLit : Hid (OwL lb v0_25 (.slice (some ⟨lb, 0, none⟩) 0 0) []) := by rw [hv_, hlb]; exact OwL.lit v0 (Nat.le_refl _)
                have zlb : v0.heap.size ≤ lb := by rw [hlb]; exact HBv.out.size
                have zlb2 : lb ≤ v0_25.heap.size := by rw [hv_, hlb]; simp
                have b_ : Below v0.heap.size v0 v0_25 := by rw [hv_]; exact below0 _ _
                replace HBv : Hid (Below v0.heap.size v0 v0_25) := HBv.out.trans (b_.mono HBv.out.size)
                try rw [← hlb]
                clear hv_ hlb b_
                refine hK.out _ _ (⟨(HBv.out.cell (p := ⟨g5, 0, none⟩) HB.out.1).trans (HB.out.2.2 0 _ rfl), Nat.lt_of_lt_of_le HB.out.1 HBv.out.size⟩) (fun hHeld => ?_)
                clear hK KK
                refine wpAnyH_ready (rs := [16]) (by kernel_rfl) (by simp) ?_
                refine (AllReadyH.cons rfl (fun KK hK => ?_) AllReadyH.nil)
                have HRI : Hid (RowI v0_25 (some ad) k2 (nthI (lsOf (V2 0) k2))) := by
                  have q_ := (HA.out.below HBv.out).rowI hn0 K20.out
                  rw [HE0.out.1] at q_
                  exact q_
                refine wp_joinL lb (.slice (some ⟨lb, 0, none⟩) 0 0) [] (some ad) k2 cc (lsOf (V2 0) k2) (.tmp 55) (.tmp 68) (by rfl) (by rfl) (by rfl) (ls_len _ _) (by omega) (by simp) zlb2 HLit.out HRI.out ?_
                intro s9 cap9 v0_26 l9 b9 _
                simp only [List.length_nil, Nat.zero_add, List.nil_append] at l9 ⊢
                have HO9 : Hid (OwL lb v0_26 (.slice s9 k2 cap9) (lsOf (V2 0) k2)) := l9
                replace HBv : Hid (Below v0.heap.size v0 v0_26) := HBv.out.trans (b9.mono zlb)
                clear l9 b9 HRI HLit
                go_simp
                refine hK.out _ _ (⟨(HBv.out.cell (p := ⟨g5, 0, none⟩) HB.out.1).trans (HB.out.2.2 0 _ rfl), Nat.lt_of_lt_of_le HB.out.1 HBv.out.size⟩) (fun hHeld => ?_)
                clear hK KK
                refine wpAnyH_take (i := 17) (v := .pointer (some ⟨gp, 0, none⟩)) rfl (by kernel_rfl) (by kernel_rfl) (by kernel_rfl) (fun _ _ _ h => h) (Or.inl ⟨by kernel_rfl, ?_⟩) hHeld ?_
                · intro w' hSw
                  obtain ⟨hc0, hz0⟩ := hSw
                  first | (go_simp; done) | (go_simp; with_reducible rfl) | (go_simp; rw [IntKind.wrap_i64]; omega) | (go_simp; omega)
                simp only [Act.put, List.setIfInBounds_toArray, List.set_cons_zero, List.set_cons_succ]
                refine wpAnyH_take (i := 18) (v := .pointer (some ⟨gp, 2, none⟩)) rfl (by kernel_rfl) (by kernel_rfl) (by kernel_rfl) (fun _ _ _ h => h) (Or.inl ⟨by kernel_rfl, ?_⟩) hHeld ?_
                · intro w' hSw
                  obtain ⟨hc0, hz0⟩ := hSw
                  first | (go_simp; done) | (go_simp; with_reducible rfl) | (go_simp; rw [IntKind.wrap_i64]; omega) | (go_simp; omega)
                simp only [Act.put, List.setIfInBounds_toArray, List.set_cons_zero, List.set_cons_succ]
                refine wpAnyH_ready (rs := [19]) (by kernel_rfl) (by simp) ?_
                refine (AllReadyH.cons rfl (fun KK hK => ?_) AllReadyH.nil)
                obtain ⟨_, eg, -, zg_, fg_, -, -, a2_⟩ := (HA.out.below HBv.out).at0 hn0
                cases eg
                have hst := store_slT
                go_simp
                obtain ⟨v0_27, hv_⟩ : ∃ z, z = v0_26.setCell ⟨gp, 2, none⟩ (.slice s9 k2 cap9) := ⟨_, rfl⟩
                rw [← hv_]
                have b5 : Beside gp v0_26 v0_27 := by rw [hv_]; exact Beside.setCell gp v0_26 2 _
                have HFw : Hid (BkF (g5 + 1) v0_26 (.slice (some ⟨gp, 0, none⟩) nb2 bc2) nb2 X2 Y2 K2 V2) := ⟨AA, CC, HA.out.below HBv.out⟩
                have HF : Hid (BkF (g5 + 1) v0_27 (.slice (some ⟨gp, 0, none⟩) nb2 bc2) nb2 X2 Y2 (atF 0 k2 K2) (atF 0 (V2 0) V2)) := by
                  obtain ⟨gi, hgi⟩ := HO9.out.inner
                  show BkF _ _ _ _ _ _ _ _
                  rw [hv_]
                  refine bk_cut HFw.out hn0 (owL_cap HO9.out (ls_len _ _)) (fun q => ?_)
                  obtain ⟨r1, r2, r3, r4, r5⟩ := hgi q
                  exact ⟨gi, r1, by have := HB.out.1; omega, r3, r4, fun j hj => (r5 j hj).1⟩
                replace HR : Hid (∃ q, Rd v0_27 r s n c q) := by obtain ⟨q_, R_⟩ := HR.out; exact ⟨q_, Rd.below' (R_.below HBv.out) (b5.below (by omega) (by omega))⟩
                replace HN : Hid (Blk v0_27 gn [.int .i64 P, .slice td nd kd, .slice ts ns ks]) := (HN.out.below HBv.out).beside b5 (by omega)
                replace HU : Hid (Blk v0_27 gu [.slice none 0 0]) := (HU.out.below HBv.out).beside b5 (by omega)
                replace HB : Hid (Blk v0_27 g5 [.slice (some ⟨gp, 0, none⟩) nb2 bc2]) := (HB.out.below HBv.out).beside b5 (by omega)
                have HSw : Hid (Beside r w v0_26) := HS.out.trans (Beside.of HBv.out)
                have zs_ := HSw.out.2.2.2.1
                replace HS : Hid (Beside r w v0_27) := HSw.out.onB (b5.below (by omega) zs_)
                clear hv_ b5 hst zg_ fg_ a2_ HFw HSw zs_ HO9
                refine hK.out _ _ (⟨HB.out.2.2 0 _ rfl, HB.out.1⟩) (fun hHeld => ?_)
                clear hK KK
                refine wpAnyH_done (by kernel_rfl) ?_ _
                clear hHeld
                have HKb2 : Hid (∀ i, i < nb2 → atF 0 k2 K2 i ≤ 70000) := fun i hi => by
                  unfold atF
                  split
                  · omega
                  · exact HKb.out i hi
                go_wp2_with fail
                go_meet
                exact ⟨_, _, _, _, _, _, _, by omega, HR, HS, HN, HU, HB, HF, HKb2⟩
      clear HR HS HN HU HB HF HKb hC
      obtain ⟨nb3, bc3, bs3, X3, Y3, K3, V3, nb63, HR, HS, HN, HU, HB, HF, HKb⟩ := hcut
      rename World => wq3
      have c5 := HB.out.2.2 0 _ rfl
      have u0 := HU.out.2.2 0 _ rfl
      have f0 := HU.out.2.1 0
      have zu_ := HU.out.1
      have z5_ := HB.out.1
      have hst := store_slT
      obtain ⟨qz, Rz⟩ := HR.out
      have n_ : g5 ≠ gu := by omega
      have BS := HS.out
      have sBS := BS.2.2.2.1
      have hRB : ∀ W2, Below gu wq3 W2 → Rd W2 r s n c qz := fun W2 hb => Rd.below' Rz (hb.mono (by omega))
      have hrow : ∀ W2, Beside gu wq3 W2 → BkF w.heap.size W2 (.slice bs3 nb3 bc3) nb3 X3 Y3 K3 V3 := fun W2 hb => (HF.out.beside hb (by omega)).low (by omega)
      go_wp2
      refine bodyPost_ret (v := .agg #[.slice bs3 nb3 bc3]) (by simp [results, Try.results78, go_sem, c5, u0, n_, n_.symm]) rfl ?_
      unfold BkPost
      exact ⟨_, _, _, X3, Y3, K3, V3, qz, rfl, by omega, HKb.out, hrow _ (Beside.setCell gu _ 0 _), hRB _ (show Below gu wq3 _ from (by repeat (first | with_reducible exact Below.refl _ _ | with_reducible refine Below.setCell ?_ (by first | omega | (simp; done) | (simp; omega)) _ | with_reducible refine bDrewN ?_ _ | with_reducible refine Below.drew ?_ | with_reducible refine Below.alloc ?_ (by first | omega | (simp; done) | (simp; omega)) _))), BS.onB (show Below w.heap.size wq3 _ from (by repeat (first | with_reducible exact Below.refl _ _ | with_reducible refine Below.setCell ?_ (by first | omega | (simp; done) | (simp; omega)) _ | with_reducible refine bDrewN ?_ _ | with_reducible refine Below.drew ?_ | with_reducible refine Below.alloc ?_ (by first | omega | (simp; done) | (simp; omega)) _)))⟩
end Go.Proofs.Ytikcfpjfcpbfcaa
