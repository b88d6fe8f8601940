/-
What is proved: a frame that is drawn: any int64s, up to 21 values.
-/
import Derived.Test.YtkocbklkiehdiaaLsInt
import Derived.Test.YtkocbklkiehdiaaRdC
import Derived.Test.YtkocbklkiehdiaaI64
import Derived.Deep.DeepCutAuto
import Derived.RegionTactic
import Derived.Deep.RegionHeldLaw
import Derived.Deep.RegionHeld3
namespace Go.Proofs.Ytkocbklkiehdiaa
set_option maxRecDepth 40000
open Go.ChangeShapes Go.WideShapes Go.ChangeAt Go.RowKit
set_option linter.unusedVariables false
set_option linter.unusedSimpArgs false

theorem store_slF : ∀ (W : World) (a : Addr) (s : Option Addr) (n c : Nat), (W.cell? a).isSome = true → W.frozen? a = false → (store a (.slice s n c)).run Try.prog W = .ok () (W.setCell a (.slice s n c)) := fun W a s n c h hf => by
  obtain ⟨u, hu⟩ := Option.isSome_iff_exists.1 h
  rw [run_store Try.prog W a _ _ rfl, hu]
  simp [hf]
theorem Lst.valF {base : Nat} {w : World} {v : Value} {k : Nat} {U : Nat → Int} (h : Lst base 2 1 w v k U) : ∃ t cap, v = .slice t k cap ∧ RowI w t k U := by
  obtain ⟨t, cap, e, O⟩ := h.own
  rw [Nat.mul_one] at O
  exact ⟨t, cap, e, O.row⟩
theorem Lst.nilF (w : World) (base : Nat) (U : Nat → Int) : Lst base 2 1 w (.slice none 0 0) 0 U := by
  show World.ownsRow _ _ _ _ _ 0 []
  exact World.ownsRow_nil w _ _ _
theorem news_oneF {W : World} {lb : Nat} {a : Value} (h0 : W.cell? ⟨lb, 0, none⟩ = some a) : ∀ j u, [a][j]? = some u → W.cell? ((⟨lb, 0, none⟩ : Addr).add j) = some u := fun j u hu => by
  rw [Addr.add_lit, Nat.zero_add]
  match j, hu with
  | 0, hu => cases hu; exact h0
theorem own_belowF {w w' : World} {base : Nat} {t : TypeId} {s : Nat} {v : Value} {n : Nat} {xs : List Value} (h : w.ownsRow base t s v n xs) (hs : Below w.heap.size w w') : w'.ownsRow base t s v n xs := by
  refine ⟨h.1, ?_⟩
  rcases h.2 with q | ⟨g, cap, cur, e1, hb, hg, r⟩
  · exact .inl q
  · exact .inr ⟨g, cap, cur, e1, hb, (hs.block g (Array.getElem?_eq_some_iff.1 hg).1).trans hg, r⟩
def FrmPost (r : Nat) (s : Option Addr) (n c : Nat) (w : World) (e : Ending) (w' : World) : Prop := ∃ (t q : Int) (tt : Option Addr) (m cc : Nat) (V : Nat → Int) (p' : Nat), e = .returned (.agg #[.int .i64 t, .int .i64 q, .slice tt m cc]) ∧ m ≤ 21 ∧ OwnI w.heap.size w' tt m V ∧ Rd w' r s n c p' ∧ Beside r w w'
set_option maxRecDepth 20000 in
set_option maxHeartbeats 16000000 in
theorem frame_any {r : Nat} {s : Option Addr} {n c p : Nat} {w : World} (h : Hid (Rd w r s n c p)) : Calls Try.prog 39 #[.pointer (some ⟨r, 0, none⟩)] w fun e w' => FrmPost r s n c w e w' := by
  have zr0 : r < w.heap.size := h.out.1
  have HR0 : Hid (Rd (w.alloc (.cells #[.int .i64 0, .int .i64 0, .slice none 0 0] 32)) r s n c p) := h.out.below (by repeat (first | with_reducible exact Below.refl _ _ | with_reducible refine Below.setCell ?_ (by first | omega | (simp; done) | (simp; omega)) _ | with_reducible refine bDrewN ?_ _ | with_reducible refine Below.drew ?_ | with_reducible refine Below.alloc ?_ (by first | omega | (simp; done) | (simp; omega)) _))
  go_enter Try.func39, Try.ntmps39
  go_wp2_with fail
  refine (near_any 1 4 (by omega) (by omega) (by omega) HR0).mono ?_
  rintro e x1 ⟨t, p1, rfl, -, -, R1, b1⟩
  have HR : Hid (Rd x1 r s n c p1) := R1
  have b01 : Below w.heap.size w (w.alloc (.cells #[.int .i64 0, .int .i64 0, .slice none 0 0] 32)) := below0 _ _
  have HS : Hid (Beside r w x1) := (Beside.of b01).trans b1
  obtain ⟨gq, hgq⟩ : ∃ z, z = w.heap.size := ⟨_, rfl⟩
  have HQ : Hid (Blk x1 gq [.int .i64 0, .int .i64 0, .slice none 0 0]) := by show Blk _ _ _; rw [hgq]; exact (Blk.new w #[.int .i64 0, .int .i64 0, .slice none 0 0] 32).beside b1 (by omega)
  have HGQ : Hid (gq = w.heap.size) := hgq
  have nqr : r < gq := by omega
  try rw [← hgq]
  clear R1 b1 b01 HR0 h hgq
  go_wp2_with fail
  refine (near_any 0 65535 (by omega) (by omega) (by omega) HR).mono ?_
  rintro e x2 ⟨q, p2, rfl, -, -, R2, b2⟩
  have z1 : r < x1.heap.size := HR.out.1
  replace HQ : Hid (Blk x2 gq [.int .i64 0, .int .i64 0, .slice none 0 0]) := HQ.out.beside b2 (by omega)
  replace HS : Hid (Beside r w x2) := HS.out.trans b2
  replace HR : Hid (Rd x2 r s n c p2) := R2
  clear R2 b2 z1
  go_upto_region 2 with fail
  obtain ⟨x3, hw3⟩ : ∃ z, z = x2.alloc (.cells #[.int .i64 t, .int .i64 q, .slice none 0 0] 32) := ⟨_, rfl⟩
  rw [← hw3]
  have b3 : Below x2.heap.size x2 x3 := by rw [hw3]; exact below0 _ _
  obtain ⟨gf, hgf⟩ : ∃ z, z = x2.heap.size := ⟨_, rfl⟩
  have HF : Hid (Blk x3 gf [.int .i64 t, .int .i64 q, (.slice none 0 0)]) := by show Blk _ _ _; rw [hw3, hgf]; exact Blk.new x2 #[.int .i64 t, .int .i64 q, .slice none 0 0] 32
  have z2 : r < x2.heap.size := HR.out.1
  have zq : gq < x2.heap.size := HQ.out.1
  have zw : w.heap.size ≤ x2.heap.size := HS.out.2.2.2.1
  replace HQ : Hid (Blk x3 gq [.int .i64 0, .int .i64 0, .slice none 0 0]) := HQ.out.below b3
  replace HR : Hid (Rd x3 r s n c p2) := HR.out.below b3
  replace HS : Hid (Beside r w x3) := HS.out.trans (Beside.of b3)
  have HL : Hid (Lst (gf + 1) 2 1 x3 (.slice none 0 0) 0 (fun _ => 0)) := Lst.nilF _ _ _
  have nfr : r < gf := by omega
  have nqf : gq < gf := by omega
  have nwf : w.heap.size ≤ gf := by omega
  try rw [← hgf]
  clear hw3 b3 hgf z2 zq zw
  have cr : x3.cell? ⟨r, 0, none⟩ = some (.slice s n c) := HR.out.2.2.1
  have n9 : (n : Int) ≤ 1048576 := by have := HR.out.2.2.2.2.2.1; omega
  obtain ⟨d6, hd6⟩ : ∃ d6 : Nat, (n : Int) / 6 = (d6 : Int) := ⟨n / 6, by omega⟩
  have d9 : (d6 : Int) ≤ 174763 := by omega
  go_wp2_with fail
  all_goals
    refine (below_any _ HR).mono ?_
    rintro e xw4 ⟨nn, q3, rfl, nn0, -, nn2, R_, b_⟩
    have zr_ : r < x3.heap.size := HR.out.1
    replace HQ : Hid (Blk xw4 gq [.int .i64 0, .int .i64 0, .slice none 0 0]) := HQ.out.beside b_ (by omega)
    replace HF : Hid (Blk xw4 gf [.int .i64 t, .int .i64 q, (.slice none 0 0)]) := HF.out.beside b_ (by omega)
    replace HL : Hid (Lst (gf + 1) 2 1 xw4 (.slice none 0 0) 0 (fun _ => 0)) := HL.out.beside b_ (by omega)
    replace HS : Hid (Beside r w xw4) := HS.out.trans b_
    replace HR : Hid (Rd xw4 r s n c q3) := R_
    clear R_ b_ zr_
    have nn5 : nn ≤ 12 := by omega
    clear nn2 cr hd6 n9 d9
    go_wp2_with fail
    go_loopw [4] (fun i wx => ∃ (k p5 : Nat) (U : Nat → Int) (v : Value), (k : Int) ≤ nn ∧ i = .int .i64 (nn - k) ∧ Hid (Rd wx r s n c p5) ∧ Hid (Beside r w wx) ∧ Hid (Blk wx gq [.int .i64 0, .int .i64 0, .slice none 0 0]) ∧ Hid (Blk wx gf [.int .i64 t, .int .i64 q, v]) ∧ Hid (Lst (gf + 1) 2 1 wx v k U)) (fun i _ => (intOf i).toNat)
    case atStart => exact ⟨0, q3, _, _, by omega, by simp, HR, HS, HQ, HF, HL⟩
    case round =>
      clear HR HS HQ HF HL
      obtain ⟨k, p5, U, v, hk, rfl, HR, HS, HQ, HF, HL⟩ := hrel
      obtain ⟨tv, cv, ev⟩ := HL.out.form
      subst ev
      have hst := store_slF
      by_cases hlt : (k : Int) < nn
      case pos =>
        have q0 : 0 < nn - (k : Int) := by omega
        have k12 : k ≤ 12 := by omega
        rename World => wa
        go_upto_region 5 with fail
        refine wp_region_held_drew (S := fun w' => True) (by kernel_rfl) ?_ (fun hHeld => ?_)
        · trivial
        obtain ⟨v0, hv0⟩ : ∃ z, z = wa.drew := ⟨_, rfl⟩
        try rw [← hv0] at hHeld
        rw [← hv0]
        have bv0 : Below wa.heap.size wa v0 := by rw [hv0]; exact Below.drew (Below.refl _ _)
        clear hv0
        replace HQ : Hid (Blk v0 gq [.int .i64 0, .int .i64 0, .slice none 0 0]) := HQ.out.below bv0
        replace HF : Hid (Blk v0 gf [.int .i64 t, .int .i64 q, (.slice tv k cv)]) := HF.out.below bv0
        replace HL : Hid (Lst (gf + 1) 2 1 v0 (.slice tv k cv) k U) := HL.out.below bv0
        replace HS : Hid (Beside r w v0) := HS.out.trans (Beside.of bv0)
        replace HR : Hid (Rd v0 r s n c p5) := HR.out.below bv0
        clear bv0
        refine wpAnyH_take (i := 0) (v := .pointer (some ⟨gf, 2, none⟩)) rfl (by kernel_rfl) (by kernel_rfl) (by kernel_rfl) (fun _ _ _ h => h) (Or.inl ⟨by kernel_rfl, ?_⟩) hHeld ?_
        · intro w' hSw
          first | (go_simp; done) | (go_simp; with_reducible rfl) | (go_simp; rw [IntKind.wrap_i64]; omega) | (go_simp; omega)
        simp only [Act.put, List.setIfInBounds_toArray, List.set_cons_zero, List.set_cons_succ]
        refine wpAnyH_take (i := 2) (v := .pointer (some ⟨r, 0, none⟩)) rfl (by kernel_rfl) (by kernel_rfl) (by kernel_rfl) (fun _ _ _ h => h) (Or.inl ⟨by kernel_rfl, ?_⟩) hHeld ?_
        · intro w' hSw
          first | (go_simp; done) | (go_simp; with_reducible rfl) | (go_simp; rw [IntKind.wrap_i64]; omega) | (go_simp; omega)
        simp only [Act.put, List.setIfInBounds_toArray, List.set_cons_zero, List.set_cons_succ]
        refine wpAnyH_ready (rs := [1, 3]) (by kernel_rfl) (by simp) ?_
        refine (AllReadyH.cons rfl (fun KK hK => ?_) (AllReadyH.cons rfl (fun KK hK => ?_) AllReadyH.nil))
        · have hl_ : v0.cell? ⟨gf, 2, none⟩ = some (.slice tv k cv) := HF.out.2.2 2 _ rfl
          go_simp
          clear hl_
          refine hK.out _ _ (trivial) (fun hHeld => ?_)
          clear hK KK
          refine wpAnyH_ready (rs := [3]) (by kernel_rfl) (by simp) ?_
          refine (AllReadyH.cons rfl (fun KK hK => ?_) AllReadyH.nil)
          go_simp
          go_wp2_with (first | (go_at_call 65; refine (near_any 0 65535 (by omega) (by omega) (by omega) HR).mono ?_; rintro e v0_2 ⟨a9, p9, rfl, -, -, R9, b9⟩; have zr9 : r < v0.heap.size := HR.out.1; replace HQ : Hid (Blk v0_2 gq [.int .i64 0, .int .i64 0, .slice none 0 0]) := HQ.out.beside b9 (by omega); replace HF : Hid (Blk v0_2 gf [.int .i64 t, .int .i64 q, (.slice tv k cv)]) := HF.out.beside b9 (by omega); replace HL : Hid (Lst (gf + 1) 2 1 v0_2 (.slice tv k cv) k U) := HL.out.beside b9 (by omega); replace HS : Hid (Beside r w v0_2) := HS.out.trans b9; replace HR : Hid (Rd v0_2 r s n c p9) := R9; clear R9 b9 zr9))
          refine hK.out _ _ (trivial) (fun hHeld => ?_)
          clear hK KK
          refine wpAnyH_ready (rs := [4]) (by kernel_rfl) (by simp) ?_
          refine (AllReadyH.cons rfl (fun KK hK => ?_) AllReadyH.nil)
          go_simp
          obtain ⟨v0_3, hv_⟩ : ∃ z, z = v0_2.alloc (.cells #[.int .i64 a9] 2) := ⟨_, rfl⟩
          rw [← hv_]
          obtain ⟨lb, hlb⟩ : ∃ z, z = v0_2.heap.size := ⟨_, rfl⟩
          have b_ : Below v0_2.heap.size v0_2 v0_3 := by rw [hv_]; exact below0 _ _
          have LB0 : v0_3.cell? ⟨lb, 0, none⟩ = some (.int .i64 a9) := by rw [hv_, hlb]; simp [go_sem]
          replace HQ : Hid (Blk v0_3 gq [.int .i64 0, .int .i64 0, .slice none 0 0]) := HQ.out.below b_
          replace HF : Hid (Blk v0_3 gf [.int .i64 t, .int .i64 q, (.slice tv k cv)]) := HF.out.below b_
          replace HL : Hid (Lst (gf + 1) 2 1 v0_3 (.slice tv k cv) k U) := HL.out.below b_
          replace HS : Hid (Beside r w v0_3) := HS.out.trans (Beside.of b_)
          replace HR : Hid (Rd v0_3 r s n c p9) := HR.out.below b_
          try rw [← hlb]
          clear hv_ hlb b_
          refine hK.out _ _ (trivial) (fun hHeld => ?_)
          clear hK KK
          refine wpAnyH_ready (rs := [5]) (by kernel_rfl) (by simp) ?_
          refine (AllReadyH.cons rfl (fun KK hK => ?_) AllReadyH.nil)
          obtain ⟨i0, hi, hz0, hz1, hz2⟩ := info_parts info_i64L
          have zf_ : gf < v0_3.heap.size := HF.out.1
          have zr_ : r < v0_3.heap.size := HR.out.1
          refine wp_append_lies _ (.tmp 25) (.tmp 28) 24 (by rfl) (gf + 1) 2 i0 (.int .i64 0) 1 8 Try.underlying24 hi hz0 hz1 hz2 rfl (by decide) (.slice tv k cv) k _ (by rfl) HL.out ⟨lb, 0, none⟩ 1 1 [.int .i64 a9] (by rfl) rfl (news_oneF LB0) (by intro u hu; simp at hu; subst hu; rfl) (by decide) (by unfold maxLen; omega) (by omega) (by omega) _ rfl ?_
          intro g9 cap9 v0_4 hown9 hgrow9 _ _
          have HL9 : Hid (Lst (gf + 1) 2 1 v0_4 (.slice (some ⟨g9, 0, none⟩) (k + 1) cap9) (k + 1) (putL U 1 k [a9])) := HL.out.on (xs := [a9]) rfl hown9
          have b_ : Below (gf + 1) v0_3 v0_4 := grown_below hgrow9 (by omega) (own_block HL.out)
          have HQ9 : Hid (Blk v0_4 gq [.int .i64 0, .int .i64 0, .slice none 0 0]) := HQ.out.belowB b_ (by omega)
          have HF9 : Hid (Blk v0_4 gf [.int .i64 t, .int .i64 q, (.slice tv k cv)]) := HF.out.belowB b_ (by omega)
          have HS9 : Hid (Beside r w v0_4) := HS.out.onB (b_.mono (by omega))
          have HR9 : Hid (Rd v0_4 r s n c p9) := Rd.below' HR.out (b_.mono (by omega))
          clear hown9 hgrow9 b_ LB0 hi hz0 hz1 hz2 zf_ zr_
          go_simp
          refine hK.out _ _ (trivial) (fun hHeld => ?_)
          clear hK KK
          refine wpAnyH_take (i := 6) (v := .pointer (some ⟨gf, 2, none⟩)) rfl (by kernel_rfl) (by kernel_rfl) (by kernel_rfl) (fun _ _ _ h => h) (Or.inl ⟨by kernel_rfl, ?_⟩) hHeld ?_
          · intro w' hSw
            first | (go_simp; done) | (go_simp; with_reducible rfl) | (go_simp; rw [IntKind.wrap_i64]; omega) | (go_simp; omega)
          simp only [Act.put, List.setIfInBounds_toArray, List.set_cons_zero, List.set_cons_succ]
          refine wpAnyH_ready (rs := [7]) (by kernel_rfl) (by simp) ?_
          refine (AllReadyH.cons rfl (fun KK hK => ?_) AllReadyH.nil)
          have hl_ : v0_4.cell? ⟨gf, 2, none⟩ = some (.slice tv k cv) := HF9.out.2.2 2 _ rfl
          have hf_ : v0_4.frozen? ⟨gf, 2, none⟩ = false := HF9.out.2.1 2
          go_simp
          obtain ⟨v0_5, hv_⟩ : ∃ z, z = v0_4.setCell ⟨gf, 2, none⟩ (.slice (some ⟨g9, 0, none⟩) (k + 1) cap9) := ⟨_, rfl⟩
          rw [← hv_]
          have bs_ : Beside gf v0_4 v0_5 := by rw [hv_]; exact Beside.setCell gf _ _ _
          have zr9 : r < v0_4.heap.size := HR9.out.1
          have zf9 : gf < v0_4.heap.size := HF9.out.1
          have HF8 : Hid (Blk v0_5 gf [.int .i64 t, .int .i64 q, .slice (some ⟨g9, 0, none⟩) (k + 1) cap9]) := by show Blk _ _ _; rw [hv_]; exact HF9.out.set 2 _
          have HQ8 : Hid (Blk v0_5 gq [.int .i64 0, .int .i64 0, .slice none 0 0]) := HQ9.out.beside bs_ (by omega)
          have HL8 : Hid (Lst (gf + 1) 2 1 v0_5 (.slice (some ⟨g9, 0, none⟩) (k + 1) cap9) (k + 1) (putL U 1 k [a9])) := HL9.out.beside bs_ (by omega)
          have HS8 : Hid (Beside r w v0_5) := HS9.out.onB (bs_.below (by omega) (by have := HS9.out.2.2.2.1; omega))
          have HR8 : Hid (Rd v0_5 r s n c p9) := Rd.below' HR9.out (bs_.below (by omega) (by omega))
          clear hv_ bs_ zr9 zf9 hl_ hf_
          refine hK.out _ _ (trivial) (fun hHeld => ?_)
          clear hK KK
          refine wpAnyH_done (by kernel_rfl) ?_ _
          clear hHeld
          go_wp2
          go_roundw
          case rel => exact ⟨k + 1, p9, _, _, by omega, by congr 1; omega, HR8, HS8, HQ8, HF8, HL8⟩
          case measure => simp [intOf]; omega
        · go_simp
          go_wp2_with (first | (go_at_call 65; refine (near_any 0 65535 (by omega) (by omega) (by omega) HR).mono ?_; rintro e v0_6 ⟨a9, p9, rfl, -, -, R9, b9⟩; have zr9 : r < v0.heap.size := HR.out.1; replace HQ : Hid (Blk v0_6 gq [.int .i64 0, .int .i64 0, .slice none 0 0]) := HQ.out.beside b9 (by omega); replace HF : Hid (Blk v0_6 gf [.int .i64 t, .int .i64 q, (.slice tv k cv)]) := HF.out.beside b9 (by omega); replace HL : Hid (Lst (gf + 1) 2 1 v0_6 (.slice tv k cv) k U) := HL.out.beside b9 (by omega); replace HS : Hid (Beside r w v0_6) := HS.out.trans b9; replace HR : Hid (Rd v0_6 r s n c p9) := R9; clear R9 b9 zr9))
          refine hK.out _ _ (trivial) (fun hHeld => ?_)
          clear hK KK
          refine wpAnyH_ready (rs := [1, 4]) (by kernel_rfl) (by simp) ?_
          refine (AllReadyH.cons rfl (fun KK hK => ?_) (AllReadyH.cons rfl (fun KK hK => ?_) AllReadyH.nil))
          · have hl_ : v0_6.cell? ⟨gf, 2, none⟩ = some (.slice tv k cv) := HF.out.2.2 2 _ rfl
            go_simp
            clear hl_
            refine hK.out _ _ (trivial) (fun hHeld => ?_)
            clear hK KK
            refine wpAnyH_ready (rs := [4]) (by kernel_rfl) (by simp) ?_
            refine (AllReadyH.cons rfl (fun KK hK => ?_) AllReadyH.nil)
            go_simp
            obtain ⟨v0_8, hv_⟩ : ∃ z, z = v0_6.alloc (.cells #[.int .i64 a9] 2) := ⟨_, rfl⟩
            rw [← hv_]
            obtain ⟨lb, hlb⟩ : ∃ z, z = v0_6.heap.size := ⟨_, rfl⟩
            have b_ : Below v0_6.heap.size v0_6 v0_8 := by rw [hv_]; exact below0 _ _
            have LB0 : v0_8.cell? ⟨lb, 0, none⟩ = some (.int .i64 a9) := by rw [hv_, hlb]; simp [go_sem]
            replace HQ : Hid (Blk v0_8 gq [.int .i64 0, .int .i64 0, .slice none 0 0]) := HQ.out.below b_
            replace HF : Hid (Blk v0_8 gf [.int .i64 t, .int .i64 q, (.slice tv k cv)]) := HF.out.below b_
            replace HL : Hid (Lst (gf + 1) 2 1 v0_8 (.slice tv k cv) k U) := HL.out.below b_
            replace HS : Hid (Beside r w v0_8) := HS.out.trans (Beside.of b_)
            replace HR : Hid (Rd v0_8 r s n c p9) := HR.out.below b_
            try rw [← hlb]
            clear hv_ hlb b_
            refine hK.out _ _ (trivial) (fun hHeld => ?_)
            clear hK KK
            refine wpAnyH_ready (rs := [5]) (by kernel_rfl) (by simp) ?_
            refine (AllReadyH.cons rfl (fun KK hK => ?_) AllReadyH.nil)
            obtain ⟨i0, hi, hz0, hz1, hz2⟩ := info_parts info_i64L
            have zf_ : gf < v0_8.heap.size := HF.out.1
            have zr_ : r < v0_8.heap.size := HR.out.1
            refine wp_append_lies _ (.tmp 25) (.tmp 28) 24 (by rfl) (gf + 1) 2 i0 (.int .i64 0) 1 8 Try.underlying24 hi hz0 hz1 hz2 rfl (by decide) (.slice tv k cv) k _ (by rfl) HL.out ⟨lb, 0, none⟩ 1 1 [.int .i64 a9] (by rfl) rfl (news_oneF LB0) (by intro u hu; simp at hu; subst hu; rfl) (by decide) (by unfold maxLen; omega) (by omega) (by omega) _ rfl ?_
            intro g9 cap9 v0_9 hown9 hgrow9 _ _
            have HL9 : Hid (Lst (gf + 1) 2 1 v0_9 (.slice (some ⟨g9, 0, none⟩) (k + 1) cap9) (k + 1) (putL U 1 k [a9])) := HL.out.on (xs := [a9]) rfl hown9
            have b_ : Below (gf + 1) v0_8 v0_9 := grown_below hgrow9 (by omega) (own_block HL.out)
            have HQ9 : Hid (Blk v0_9 gq [.int .i64 0, .int .i64 0, .slice none 0 0]) := HQ.out.belowB b_ (by omega)
            have HF9 : Hid (Blk v0_9 gf [.int .i64 t, .int .i64 q, (.slice tv k cv)]) := HF.out.belowB b_ (by omega)
            have HS9 : Hid (Beside r w v0_9) := HS.out.onB (b_.mono (by omega))
            have HR9 : Hid (Rd v0_9 r s n c p9) := Rd.below' HR.out (b_.mono (by omega))
            clear hown9 hgrow9 b_ LB0 hi hz0 hz1 hz2 zf_ zr_
            go_simp
            refine hK.out _ _ (trivial) (fun hHeld => ?_)
            clear hK KK
            refine wpAnyH_take (i := 6) (v := .pointer (some ⟨gf, 2, none⟩)) rfl (by kernel_rfl) (by kernel_rfl) (by kernel_rfl) (fun _ _ _ h => h) (Or.inl ⟨by kernel_rfl, ?_⟩) hHeld ?_
            · intro w' hSw
              first | (go_simp; done) | (go_simp; with_reducible rfl) | (go_simp; rw [IntKind.wrap_i64]; omega) | (go_simp; omega)
            simp only [Act.put, List.setIfInBounds_toArray, List.set_cons_zero, List.set_cons_succ]
            refine wpAnyH_ready (rs := [7]) (by kernel_rfl) (by simp) ?_
            refine (AllReadyH.cons rfl (fun KK hK => ?_) AllReadyH.nil)
            have hl_ : v0_9.cell? ⟨gf, 2, none⟩ = some (.slice tv k cv) := HF9.out.2.2 2 _ rfl
            have hf_ : v0_9.frozen? ⟨gf, 2, none⟩ = false := HF9.out.2.1 2
            go_simp
            obtain ⟨v0_10, hv_⟩ : ∃ z, z = v0_9.setCell ⟨gf, 2, none⟩ (.slice (some ⟨g9, 0, none⟩) (k + 1) cap9) := ⟨_, rfl⟩
            rw [← hv_]
            have bs_ : Beside gf v0_9 v0_10 := by rw [hv_]; exact Beside.setCell gf _ _ _
            have zr9 : r < v0_9.heap.size := HR9.out.1
            have zf9 : gf < v0_9.heap.size := HF9.out.1
            have HF8 : Hid (Blk v0_10 gf [.int .i64 t, .int .i64 q, .slice (some ⟨g9, 0, none⟩) (k + 1) cap9]) := by show Blk _ _ _; rw [hv_]; exact HF9.out.set 2 _
            have HQ8 : Hid (Blk v0_10 gq [.int .i64 0, .int .i64 0, .slice none 0 0]) := HQ9.out.beside bs_ (by omega)
            have HL8 : Hid (Lst (gf + 1) 2 1 v0_10 (.slice (some ⟨g9, 0, none⟩) (k + 1) cap9) (k + 1) (putL U 1 k [a9])) := HL9.out.beside bs_ (by omega)
            have HS8 : Hid (Beside r w v0_10) := HS9.out.onB (bs_.below (by omega) (by have := HS9.out.2.2.2.1; omega))
            have HR8 : Hid (Rd v0_10 r s n c p9) := Rd.below' HR9.out (bs_.below (by omega) (by omega))
            clear hv_ bs_ zr9 zf9 hl_ hf_
            refine hK.out _ _ (trivial) (fun hHeld => ?_)
            clear hK KK
            refine wpAnyH_done (by kernel_rfl) ?_ _
            clear hHeld
            go_wp2
            go_roundw
            case rel => exact ⟨k + 1, p9, _, _, by omega, by congr 1; omega, HR8, HS8, HQ8, HF8, HL8⟩
            case measure => simp [intOf]; omega
          · go_simp
            obtain ⟨v0_11, hv_⟩ : ∃ z, z = v0_6.alloc (.cells #[.int .i64 a9] 2) := ⟨_, rfl⟩
            rw [← hv_]
            obtain ⟨lb, hlb⟩ : ∃ z, z = v0_6.heap.size := ⟨_, rfl⟩
            have b_ : Below v0_6.heap.size v0_6 v0_11 := by rw [hv_]; exact below0 _ _
            have LB0 : v0_11.cell? ⟨lb, 0, none⟩ = some (.int .i64 a9) := by rw [hv_, hlb]; simp [go_sem]
            replace HQ : Hid (Blk v0_11 gq [.int .i64 0, .int .i64 0, .slice none 0 0]) := HQ.out.below b_
            replace HF : Hid (Blk v0_11 gf [.int .i64 t, .int .i64 q, (.slice tv k cv)]) := HF.out.below b_
            replace HL : Hid (Lst (gf + 1) 2 1 v0_11 (.slice tv k cv) k U) := HL.out.below b_
            replace HS : Hid (Beside r w v0_11) := HS.out.trans (Beside.of b_)
            replace HR : Hid (Rd v0_11 r s n c p9) := HR.out.below b_
            try rw [← hlb]
            clear hv_ hlb b_
            refine hK.out _ _ (trivial) (fun hHeld => ?_)
            clear hK KK
            refine wpAnyH_ready (rs := [1]) (by kernel_rfl) (by simp) ?_
            refine (AllReadyH.cons rfl (fun KK hK => ?_) AllReadyH.nil)
            have hl_ : v0_11.cell? ⟨gf, 2, none⟩ = some (.slice tv k cv) := HF.out.2.2 2 _ rfl
            go_simp
            clear hl_
            refine hK.out _ _ (trivial) (fun hHeld => ?_)
            clear hK KK
            refine wpAnyH_ready (rs := [5]) (by kernel_rfl) (by simp) ?_
            refine (AllReadyH.cons rfl (fun KK hK => ?_) AllReadyH.nil)
            obtain ⟨i0, hi, hz0, hz1, hz2⟩ := info_parts info_i64L
            have zf_ : gf < v0_11.heap.size := HF.out.1
            have zr_ : r < v0_11.heap.size := HR.out.1
            refine wp_append_lies _ (.tmp 25) (.tmp 28) 24 (by rfl) (gf + 1) 2 i0 (.int .i64 0) 1 8 Try.underlying24 hi hz0 hz1 hz2 rfl (by decide) (.slice tv k cv) k _ (by rfl) HL.out ⟨lb, 0, none⟩ 1 1 [.int .i64 a9] (by rfl) rfl (news_oneF LB0) (by intro u hu; simp at hu; subst hu; rfl) (by decide) (by unfold maxLen; omega) (by omega) (by omega) _ rfl ?_
            intro g9 cap9 v0_13 hown9 hgrow9 _ _
            have HL9 : Hid (Lst (gf + 1) 2 1 v0_13 (.slice (some ⟨g9, 0, none⟩) (k + 1) cap9) (k + 1) (putL U 1 k [a9])) := HL.out.on (xs := [a9]) rfl hown9
            have b_ : Below (gf + 1) v0_11 v0_13 := grown_below hgrow9 (by omega) (own_block HL.out)
            have HQ9 : Hid (Blk v0_13 gq [.int .i64 0, .int .i64 0, .slice none 0 0]) := HQ.out.belowB b_ (by omega)
            have HF9 : Hid (Blk v0_13 gf [.int .i64 t, .int .i64 q, (.slice tv k cv)]) := HF.out.belowB b_ (by omega)
            have HS9 : Hid (Beside r w v0_13) := HS.out.onB (b_.mono (by omega))
            have HR9 : Hid (Rd v0_13 r s n c p9) := Rd.below' HR.out (b_.mono (by omega))
            clear hown9 hgrow9 b_ LB0 hi hz0 hz1 hz2 zf_ zr_
            go_simp
            refine hK.out _ _ (trivial) (fun hHeld => ?_)
            clear hK KK
            refine wpAnyH_take (i := 6) (v := .pointer (some ⟨gf, 2, none⟩)) rfl (by kernel_rfl) (by kernel_rfl) (by kernel_rfl) (fun _ _ _ h => h) (Or.inl ⟨by kernel_rfl, ?_⟩) hHeld ?_
            · intro w' hSw
              first | (go_simp; done) | (go_simp; with_reducible rfl) | (go_simp; rw [IntKind.wrap_i64]; omega) | (go_simp; omega)
            simp only [Act.put, List.setIfInBounds_toArray, List.set_cons_zero, List.set_cons_succ]
            refine wpAnyH_ready (rs := [7]) (by kernel_rfl) (by simp) ?_
            refine (AllReadyH.cons rfl (fun KK hK => ?_) AllReadyH.nil)
            have hl_ : v0_13.cell? ⟨gf, 2, none⟩ = some (.slice tv k cv) := HF9.out.2.2 2 _ rfl
            have hf_ : v0_13.frozen? ⟨gf, 2, none⟩ = false := HF9.out.2.1 2
            go_simp
            obtain ⟨v0_14, hv_⟩ : ∃ z, z = v0_13.setCell ⟨gf, 2, none⟩ (.slice (some ⟨g9, 0, none⟩) (k + 1) cap9) := ⟨_, rfl⟩
            rw [← hv_]
            have bs_ : Beside gf v0_13 v0_14 := by rw [hv_]; exact Beside.setCell gf _ _ _
            have zr9 : r < v0_13.heap.size := HR9.out.1
            have zf9 : gf < v0_13.heap.size := HF9.out.1
            have HF8 : Hid (Blk v0_14 gf [.int .i64 t, .int .i64 q, .slice (some ⟨g9, 0, none⟩) (k + 1) cap9]) := by show Blk _ _ _; rw [hv_]; exact HF9.out.set 2 _
            have HQ8 : Hid (Blk v0_14 gq [.int .i64 0, .int .i64 0, .slice none 0 0]) := HQ9.out.beside bs_ (by omega)
            have HL8 : Hid (Lst (gf + 1) 2 1 v0_14 (.slice (some ⟨g9, 0, none⟩) (k + 1) cap9) (k + 1) (putL U 1 k [a9])) := HL9.out.beside bs_ (by omega)
            have HS8 : Hid (Beside r w v0_14) := HS9.out.onB (bs_.below (by omega) (by have := HS9.out.2.2.2.1; omega))
            have HR8 : Hid (Rd v0_14 r s n c p9) := Rd.below' HR9.out (bs_.below (by omega) (by omega))
            clear hv_ bs_ zr9 zf9 hl_ hf_
            refine hK.out _ _ (trivial) (fun hHeld => ?_)
            clear hK KK
            refine wpAnyH_done (by kernel_rfl) ?_ _
            clear hHeld
            go_wp2
            go_roundw
            case rel => exact ⟨k + 1, p9, _, _, by omega, by congr 1; omega, HR8, HS8, HQ8, HF8, HL8⟩
            case measure => simp [intOf]; omega
      case neg =>
        obtain rfl : (k : Int) = nn := by omega
        rename World => wl
        have k12 : k ≤ 12 := by omega
        clear hk hlt nn5
        go_wp2_with fail
        refine (below_any 30 HR).mono ?_
        rintro e xw5 ⟨kk, pk, rfl, kk0, -, -, R_, b_⟩
        have zr_ : r < wl.heap.size := HR.out.1
        replace HQ : Hid (Blk xw5 gq [.int .i64 0, .int .i64 0, .slice none 0 0]) := HQ.out.beside b_ (by omega)
        replace HF : Hid (Blk xw5 gf [.int .i64 t, .int .i64 q, (.slice tv k cv)]) := HF.out.beside b_ (by omega)
        replace HL : Hid (Lst (gf + 1) 2 1 xw5 (.slice tv k cv) k U) := HL.out.beside b_ (by omega)
        replace HS : Hid (Beside r w xw5) := HS.out.trans b_
        replace HR : Hid (Rd xw5 r s n c pk) := R_
        clear R_ b_ zr_
        by_cases e0 : kk = 0
        case pos =>
          subst e0
          go_wp2_with fail
          refine (off_any 1 4 (by omega) (by omega) (by omega) HR).mono ?_
          rintro e xw6 ⟨x9, px, rfl, -, R_, b_⟩
          have zr_ : r < xw5.heap.size := HR.out.1
          replace HQ : Hid (Blk xw6 gq [.int .i64 0, .int .i64 0, .slice none 0 0]) := HQ.out.beside b_ (by omega)
          replace HF : Hid (Blk xw6 gf [.int .i64 t, .int .i64 q, (.slice tv k cv)]) := HF.out.beside b_ (by omega)
          replace HL : Hid (Lst (gf + 1) 2 1 xw6 (.slice tv k cv) k U) := HL.out.beside b_ (by omega)
          replace HS : Hid (Beside r w xw6) := HS.out.trans b_
          replace HR : Hid (Rd xw6 r s n c px) := R_
          clear R_ b_ zr_
          have c_ := HF.out.2.2 0 _ rfl
          have f_ := HF.out.2.1 0
          go_upto_region 15 with fail
          obtain ⟨xw7, hw_⟩ : ∃ z, z = xw6.setCell ⟨gf, 0, none⟩ (.int .i64 x9) := ⟨_, rfl⟩
          rw [← hw_]
          have bs_ : Beside gf xw6 xw7 := by rw [hw_]; exact Beside.setCell gf _ _ _
          have zr_ : r < xw6.heap.size := HR.out.1
          have zf_ : gf < xw6.heap.size := HF.out.1
          replace HF : Hid (Blk xw7 gf [.int .i64 x9, .int .i64 q, (.slice tv k cv)]) := by show Blk _ _ _; rw [hw_]; exact HF.out.set 0 _
          replace HQ : Hid (Blk xw7 gq [.int .i64 0, .int .i64 0, .slice none 0 0]) := HQ.out.beside bs_ (by omega)
          replace HL : Hid (Lst (gf + 1) 2 1 xw7 (.slice tv k cv) k U) := HL.out.beside bs_ (by omega)
          replace HS : Hid (Beside r w xw7) := HS.out.onB (bs_.below (by omega) (by have := HS.out.2.2.2.1; omega))
          replace HR : Hid (Rd xw7 r s n c px) := Rd.below' HR.out (bs_.below (by omega) (by omega))
          clear hw_ bs_ zr_ zf_ c_ f_
          obtain ⟨tv2, cv2, ev2, hrow0⟩ := HL.out.own
          cases ev2
          rw [Nat.mul_one] at hrow0
          have hrow : ∀ W2, Beside gq xw7 W2 → OwnI w.heap.size W2 tv (k) U := fun W2 hb => (OwnI.beside hrow0 hb (by omega)).mono (by omega)
          obtain ⟨zf, ff, cf⟩ := HF.out
          have f0 := cf 0 _ rfl
          have f1 := cf 1 _ rfl
          have f2 := cf 2 _ rfl
          obtain ⟨zq, fq, cq⟩ := HQ.out
          have g0 := cq 0 _ rfl
          have g1 := cq 1 _ rfl
          have g2 := cq 2 _ rfl
          have fq0 := fq 0
          have fq1 := fq 1
          have fq2 := fq 2
          have n_ : gf ≠ gq := by omega
          have BS := HS.out
          have sBS := BS.2.2.2.1
          have zq9 : w.heap.size ≤ gq := by have := HGQ.out; omega
          have hRB : ∀ W2, Below gq xw7 W2 → Rd W2 r s n c px := fun W2 hb => Rd.below' HR.out (hb.mono (by omega))
          clear cf cq ff fq
          go_wp2
          refine bodyPost_ret (v := .agg #[.int .i64 x9, .int .i64 q, .slice tv k cv]) (by simp [results, Try.results39, go_sem, f0, f1, f2, g0, g1, g2, n_, n_.symm]) rfl ?_
          unfold FrmPost
          exact ⟨x9, q, tv, k, cv, _, px, rfl, by omega, hrow _ (((Beside.setCell gq _ 0 _).trans (Beside.setCell gq _ 1 _)).trans (Beside.setCell gq _ 2 _)), hRB _ (show Below gq xw7 _ from (by repeat (first | with_reducible exact Below.refl _ _ | with_reducible refine Below.setCell ?_ (by first | omega | (simp; done) | (simp; omega)) _ | with_reducible refine bDrewN ?_ _ | with_reducible refine Below.drew ?_ | with_reducible refine Below.alloc ?_ (by first | omega | (simp; done) | (simp; omega)) _))), BS.onB (show Below w.heap.size xw7 _ from (by repeat (first | with_reducible exact Below.refl _ _ | with_reducible refine Below.setCell ?_ (by first | omega | (simp; done) | (simp; omega)) _ | with_reducible refine bDrewN ?_ _ | with_reducible refine Below.drew ?_ | with_reducible refine Below.alloc ?_ (by first | omega | (simp; done) | (simp; omega)) _)))⟩
        have ne0 : (kk == 0) = false := by simpa using e0
        by_cases e1 : kk = 1
        case pos =>
          subst e1
          go_wp2_with fail
          refine (off_any 0 65535 (by omega) (by omega) (by omega) HR).mono ?_
          rintro e xw8 ⟨x9, px, rfl, -, R_, b_⟩
          have zr_ : r < xw5.heap.size := HR.out.1
          replace HQ : Hid (Blk xw8 gq [.int .i64 0, .int .i64 0, .slice none 0 0]) := HQ.out.beside b_ (by omega)
          replace HF : Hid (Blk xw8 gf [.int .i64 t, .int .i64 q, (.slice tv k cv)]) := HF.out.beside b_ (by omega)
          replace HL : Hid (Lst (gf + 1) 2 1 xw8 (.slice tv k cv) k U) := HL.out.beside b_ (by omega)
          replace HS : Hid (Beside r w xw8) := HS.out.trans b_
          replace HR : Hid (Rd xw8 r s n c px) := R_
          clear R_ b_ zr_
          have c_ := HF.out.2.2 1 _ rfl
          have f_ := HF.out.2.1 1
          go_upto_region 15 with fail
          obtain ⟨xw9, hw_⟩ : ∃ z, z = xw8.setCell ⟨gf, 1, none⟩ (.int .i64 x9) := ⟨_, rfl⟩
          rw [← hw_]
          have bs_ : Beside gf xw8 xw9 := by rw [hw_]; exact Beside.setCell gf _ _ _
          have zr_ : r < xw8.heap.size := HR.out.1
          have zf_ : gf < xw8.heap.size := HF.out.1
          replace HF : Hid (Blk xw9 gf [.int .i64 t, .int .i64 x9, (.slice tv k cv)]) := by show Blk _ _ _; rw [hw_]; exact HF.out.set 1 _
          replace HQ : Hid (Blk xw9 gq [.int .i64 0, .int .i64 0, .slice none 0 0]) := HQ.out.beside bs_ (by omega)
          replace HL : Hid (Lst (gf + 1) 2 1 xw9 (.slice tv k cv) k U) := HL.out.beside bs_ (by omega)
          replace HS : Hid (Beside r w xw9) := HS.out.onB (bs_.below (by omega) (by have := HS.out.2.2.2.1; omega))
          replace HR : Hid (Rd xw9 r s n c px) := Rd.below' HR.out (bs_.below (by omega) (by omega))
          clear hw_ bs_ zr_ zf_ c_ f_
          obtain ⟨tv2, cv2, ev2, hrow0⟩ := HL.out.own
          cases ev2
          rw [Nat.mul_one] at hrow0
          have hrow : ∀ W2, Beside gq xw9 W2 → OwnI w.heap.size W2 tv (k) U := fun W2 hb => (OwnI.beside hrow0 hb (by omega)).mono (by omega)
          obtain ⟨zf, ff, cf⟩ := HF.out
          have f0 := cf 0 _ rfl
          have f1 := cf 1 _ rfl
          have f2 := cf 2 _ rfl
          obtain ⟨zq, fq, cq⟩ := HQ.out
          have g0 := cq 0 _ rfl
          have g1 := cq 1 _ rfl
          have g2 := cq 2 _ rfl
          have fq0 := fq 0
          have fq1 := fq 1
          have fq2 := fq 2
          have n_ : gf ≠ gq := by omega
          have BS := HS.out
          have sBS := BS.2.2.2.1
          have zq9 : w.heap.size ≤ gq := by have := HGQ.out; omega
          have hRB : ∀ W2, Below gq xw9 W2 → Rd W2 r s n c px := fun W2 hb => Rd.below' HR.out (hb.mono (by omega))
          clear cf cq ff fq
          go_wp2
          refine bodyPost_ret (v := .agg #[.int .i64 t, .int .i64 x9, .slice tv k cv]) (by simp [results, Try.results39, go_sem, f0, f1, f2, g0, g1, g2, n_, n_.symm]) rfl ?_
          unfold FrmPost
          exact ⟨t, x9, tv, k, cv, _, px, rfl, by omega, hrow _ (((Beside.setCell gq _ 0 _).trans (Beside.setCell gq _ 1 _)).trans (Beside.setCell gq _ 2 _)), hRB _ (show Below gq xw9 _ from (by repeat (first | with_reducible exact Below.refl _ _ | with_reducible refine Below.setCell ?_ (by first | omega | (simp; done) | (simp; omega)) _ | with_reducible refine bDrewN ?_ _ | with_reducible refine Below.drew ?_ | with_reducible refine Below.alloc ?_ (by first | omega | (simp; done) | (simp; omega)) _))), BS.onB (show Below w.heap.size xw9 _ from (by repeat (first | with_reducible exact Below.refl _ _ | with_reducible refine Below.setCell ?_ (by first | omega | (simp; done) | (simp; omega)) _ | with_reducible refine bDrewN ?_ _ | with_reducible refine Below.drew ?_ | with_reducible refine Below.alloc ?_ (by first | omega | (simp; done) | (simp; omega)) _)))⟩
        have ne1 : (kk == 1) = false := by simpa using e1
        by_cases e2 : kk = 2
        case pos =>
          subst e2
          go_wp2_with fail
          refine (below_any 2 HR).mono ?_
          rintro e xw10 ⟨x9, px, rfl, x90, -, x92, R_, b_⟩
          have zr_ : r < xw5.heap.size := HR.out.1
          replace HQ : Hid (Blk xw10 gq [.int .i64 0, .int .i64 0, .slice none 0 0]) := HQ.out.beside b_ (by omega)
          replace HF : Hid (Blk xw10 gf [.int .i64 t, .int .i64 q, (.slice tv k cv)]) := HF.out.beside b_ (by omega)
          replace HL : Hid (Lst (gf + 1) 2 1 xw10 (.slice tv k cv) k U) := HL.out.beside b_ (by omega)
          replace HS : Hid (Beside r w xw10) := HS.out.trans b_
          replace HR : Hid (Rd xw10 r s n c px) := R_
          clear R_ b_ zr_
          obtain ⟨M, hM⟩ : ∃ M : Nat, 20 + x9 = (M : Int) := ⟨(20 + x9).toNat, by omega⟩
          have M1 : 20 ≤ M := by omega
          have M2 : M ≤ 21 := by omega
          have hmk := make_i64 M (by omega)
          have wm : IntKind.i64.wrap (20 + x9) = (M : Int) := by rw [IntKind.wrap_i64]; omega
          have wm2 : (20 + x9) = (M : Int) := hM
          have c_ := HF.out.2.2 2 _ rfl
          have f_ := HF.out.2.1 2
          have zf_ : gf < xw10.heap.size := HF.out.1
          have zr_ : r < xw10.heap.size := HR.out.1
          go_upto_region 15 with fail
          obtain ⟨y1, hy1⟩ : ∃ z, z = xw10.alloc (.cells (madeCells #[.int .i64 0] M) 2) := ⟨_, rfl⟩
          have b1_ : Below xw10.heap.size xw10 y1 := by rw [hy1]; exact below0 _ _
          have RT := rowTo_start xw10 M (fun _ => 0) 2
          rw [← hy1] at RT
          obtain ⟨xw11, hw_⟩ : ∃ z, z = y1.setCell ⟨gf, 2, none⟩ (.slice (some ⟨xw10.heap.size, 0, none⟩) M M) := ⟨_, rfl⟩
          have hsame : ((xw10.setCell ⟨gf, 2, none⟩ (.slice (some ⟨xw10.heap.size, 0, none⟩) M M)).alloc (.cells (madeCells #[.int .i64 0] M) 2)) = xw11 := by rw [hw_, hy1]; exact (World.setCell_alloc_past _ gf 2 _ zf_).symm
          try rw [hsame]
          try rw [← hy1, ← hw_]
          have bs_ : Beside gf y1 xw11 := by rw [hw_]; exact Beside.setCell gf _ _ _
          replace HF : Hid (Blk xw11 gf [.int .i64 t, .int .i64 q, .slice (some ⟨xw10.heap.size, 0, none⟩) M M]) := by show Blk _ _ _; rw [hw_]; exact (HF.out.below b1_).set 2 _
          replace HQ : Hid (Blk xw11 gq [.int .i64 0, .int .i64 0, .slice none 0 0]) := (HQ.out.below b1_).beside bs_ (by omega)
          have hs1 : Beside r w y1 := HS.out.trans (Beside.of b1_)
          replace HS : Hid (Beside r w xw11) := hs1.onB (bs_.below (by omega) (by have := hs1.2.2.2.1; omega))
          replace HR : Hid (Rd xw11 r s n c px) := Rd.below' (HR.out.below b1_) (bs_.below (by omega) (by have := b1_.size; omega))
          have hrow : ∀ W2, Beside gq xw11 W2 → OwnI w.heap.size W2 (some ⟨xw10.heap.size, 0, none⟩) M (fun _ => 0) := fun W2 hb => OwnI.mono (OwnI.beside (base := gf + 1) (OwnI.beside (base := gf + 1) (fun j hj => ⟨xw10.heap.size, rfl, by omega, RT.2.1, by simpa using RT.2.2.2 j hj, RT.2.2.1 j⟩) bs_ (by omega)) hb (by omega)) (by omega)
          obtain ⟨g9, hg9⟩ : ∃ z, z = xw10.heap.size := ⟨_, rfl⟩
          rw [← hg9] at HF hrow ⊢
          clear hw_ bs_ zr_ zf_ c_ f_ hs1 RT hsame hy1 b1_ hmk wm wm2 hM x90 x92 hg9 HL
          obtain ⟨zf, ff, cf⟩ := HF.out
          have f0 := cf 0 _ rfl
          have f1 := cf 1 _ rfl
          have f2 := cf 2 _ rfl
          obtain ⟨zq, fq, cq⟩ := HQ.out
          have g0 := cq 0 _ rfl
          have g1 := cq 1 _ rfl
          have g2 := cq 2 _ rfl
          have fq0 := fq 0
          have fq1 := fq 1
          have fq2 := fq 2
          have n_ : gf ≠ gq := by omega
          have BS := HS.out
          have sBS := BS.2.2.2.1
          have zq9 : w.heap.size ≤ gq := by have := HGQ.out; omega
          have hRB : ∀ W2, Below gq xw11 W2 → Rd W2 r s n c px := fun W2 hb => Rd.below' HR.out (hb.mono (by omega))
          clear cf cq ff fq
          go_wp2
          refine bodyPost_ret (v := .agg #[.int .i64 t, .int .i64 q, .slice (some ⟨g9, 0, none⟩) M M]) (by simp [results, Try.results39, go_sem, f0, f1, f2, g0, g1, g2, n_, n_.symm]) rfl ?_
          unfold FrmPost
          exact ⟨t, q, (some ⟨g9, 0, none⟩), M, M, _, px, rfl, by omega, hrow _ (((Beside.setCell gq _ 0 _).trans (Beside.setCell gq _ 1 _)).trans (Beside.setCell gq _ 2 _)), hRB _ (show Below gq xw11 _ from (by repeat (first | with_reducible exact Below.refl _ _ | with_reducible refine Below.setCell ?_ (by first | omega | (simp; done) | (simp; omega)) _ | with_reducible refine bDrewN ?_ _ | with_reducible refine Below.drew ?_ | with_reducible refine Below.alloc ?_ (by first | omega | (simp; done) | (simp; omega)) _))), BS.onB (show Below w.heap.size xw11 _ from (by repeat (first | with_reducible exact Below.refl _ _ | with_reducible refine Below.setCell ?_ (by first | omega | (simp; done) | (simp; omega)) _ | with_reducible refine bDrewN ?_ _ | with_reducible refine Below.drew ?_ | with_reducible refine Below.alloc ?_ (by first | omega | (simp; done) | (simp; omega)) _)))⟩
        have ne2 : (kk == 2) = false := by simpa using e2
        by_cases e3 : kk = 3
        case pos =>
          subst e3
          have q0 : True := trivial
          go_upto_region 14 with fail
          refine wp_region_held_drew (S := fun w' => True) (by kernel_rfl) ?_ (fun hHeld => ?_)
          · trivial
          obtain ⟨v0, hv0⟩ : ∃ z, z = xw5.drew := ⟨_, rfl⟩
          try rw [← hv0] at hHeld
          rw [← hv0]
          have bv0 : Below xw5.heap.size xw5 v0 := by rw [hv0]; exact Below.drew (Below.refl _ _)
          clear hv0
          replace HQ : Hid (Blk v0 gq [.int .i64 0, .int .i64 0, .slice none 0 0]) := HQ.out.below bv0
          replace HF : Hid (Blk v0 gf [.int .i64 t, .int .i64 q, (.slice tv k cv)]) := HF.out.below bv0
          replace HL : Hid (Lst (gf + 1) 2 1 v0 (.slice tv k cv) k U) := HL.out.below bv0
          replace HS : Hid (Beside r w v0) := HS.out.trans (Beside.of bv0)
          replace HR : Hid (Rd v0 r s n c pk) := HR.out.below bv0
          clear bv0
          refine wpAnyH_take (i := 0) (v := .pointer (some ⟨gf, 2, none⟩)) rfl (by kernel_rfl) (by kernel_rfl) (by kernel_rfl) (fun _ _ _ h => h) (Or.inl ⟨by kernel_rfl, ?_⟩) hHeld ?_
          · intro w' hSw
            first | (go_simp; done) | (go_simp; with_reducible rfl) | (go_simp; rw [IntKind.wrap_i64]; omega) | (go_simp; omega)
          simp only [Act.put, List.setIfInBounds_toArray, List.set_cons_zero, List.set_cons_succ]
          refine wpAnyH_take (i := 2) (v := .pointer (some ⟨r, 0, none⟩)) rfl (by kernel_rfl) (by kernel_rfl) (by kernel_rfl) (fun _ _ _ h => h) (Or.inl ⟨by kernel_rfl, ?_⟩) hHeld ?_
          · intro w' hSw
            first | (go_simp; done) | (go_simp; with_reducible rfl) | (go_simp; rw [IntKind.wrap_i64]; omega) | (go_simp; omega)
          simp only [Act.put, List.setIfInBounds_toArray, List.set_cons_zero, List.set_cons_succ]
          refine wpAnyH_ready (rs := [1, 3]) (by kernel_rfl) (by simp) ?_
          refine (AllReadyH.cons rfl (fun KK hK => ?_) (AllReadyH.cons rfl (fun KK hK => ?_) AllReadyH.nil))
          · have hl_ : v0.cell? ⟨gf, 2, none⟩ = some (.slice tv k cv) := HF.out.2.2 2 _ rfl
            go_simp
            clear hl_
            refine hK.out _ _ (trivial) (fun hHeld => ?_)
            clear hK KK
            refine wpAnyH_ready (rs := [3]) (by kernel_rfl) (by simp) ?_
            refine (AllReadyH.cons rfl (fun KK hK => ?_) AllReadyH.nil)
            go_simp
            go_wp2_with (first | (go_at_call 66; refine (off_any 0 65535 (by omega) (by omega) (by omega) HR).mono ?_; rintro e v0_2 ⟨a9, p9, rfl, -, R9, b9⟩; have zr9 : r < v0.heap.size := HR.out.1; replace HQ : Hid (Blk v0_2 gq [.int .i64 0, .int .i64 0, .slice none 0 0]) := HQ.out.beside b9 (by omega); replace HF : Hid (Blk v0_2 gf [.int .i64 t, .int .i64 q, (.slice tv k cv)]) := HF.out.beside b9 (by omega); replace HL : Hid (Lst (gf + 1) 2 1 v0_2 (.slice tv k cv) k U) := HL.out.beside b9 (by omega); replace HS : Hid (Beside r w v0_2) := HS.out.trans b9; replace HR : Hid (Rd v0_2 r s n c p9) := R9; clear R9 b9 zr9))
            refine hK.out _ _ (trivial) (fun hHeld => ?_)
            clear hK KK
            refine wpAnyH_ready (rs := [4]) (by kernel_rfl) (by simp) ?_
            refine (AllReadyH.cons rfl (fun KK hK => ?_) AllReadyH.nil)
            go_simp
            obtain ⟨v0_3, hv_⟩ : ∃ z, z = v0_2.alloc (.cells #[.int .i64 a9] 2) := ⟨_, rfl⟩
            rw [← hv_]
            obtain ⟨lb, hlb⟩ : ∃ z, z = v0_2.heap.size := ⟨_, rfl⟩
            have b_ : Below v0_2.heap.size v0_2 v0_3 := by rw [hv_]; exact below0 _ _
            have LB0 : v0_3.cell? ⟨lb, 0, none⟩ = some (.int .i64 a9) := by rw [hv_, hlb]; simp [go_sem]
            replace HQ : Hid (Blk v0_3 gq [.int .i64 0, .int .i64 0, .slice none 0 0]) := HQ.out.below b_
            replace HF : Hid (Blk v0_3 gf [.int .i64 t, .int .i64 q, (.slice tv k cv)]) := HF.out.below b_
            replace HL : Hid (Lst (gf + 1) 2 1 v0_3 (.slice tv k cv) k U) := HL.out.below b_
            replace HS : Hid (Beside r w v0_3) := HS.out.trans (Beside.of b_)
            replace HR : Hid (Rd v0_3 r s n c p9) := HR.out.below b_
            try rw [← hlb]
            clear hv_ hlb b_
            refine hK.out _ _ (trivial) (fun hHeld => ?_)
            clear hK KK
            refine wpAnyH_ready (rs := [5]) (by kernel_rfl) (by simp) ?_
            refine (AllReadyH.cons rfl (fun KK hK => ?_) AllReadyH.nil)
            obtain ⟨i0, hi, hz0, hz1, hz2⟩ := info_parts info_i64L
            have zf_ : gf < v0_3.heap.size := HF.out.1
            have zr_ : r < v0_3.heap.size := HR.out.1
            refine wp_append_lies _ (.tmp 53) (.tmp 56) 24 (by rfl) (gf + 1) 2 i0 (.int .i64 0) 1 8 Try.underlying24 hi hz0 hz1 hz2 rfl (by decide) (.slice tv k cv) k _ (by rfl) HL.out ⟨lb, 0, none⟩ 1 1 [.int .i64 a9] (by rfl) rfl (news_oneF LB0) (by intro u hu; simp at hu; subst hu; rfl) (by decide) (by unfold maxLen; omega) (by omega) (by omega) _ rfl ?_
            intro g9 cap9 v0_4 hown9 hgrow9 _ _
            have HL9 : Hid (Lst (gf + 1) 2 1 v0_4 (.slice (some ⟨g9, 0, none⟩) (k + 1) cap9) (k + 1) (putL U 1 k [a9])) := HL.out.on (xs := [a9]) rfl hown9
            have b_ : Below (gf + 1) v0_3 v0_4 := grown_below hgrow9 (by omega) (own_block HL.out)
            have HQ9 : Hid (Blk v0_4 gq [.int .i64 0, .int .i64 0, .slice none 0 0]) := HQ.out.belowB b_ (by omega)
            have HF9 : Hid (Blk v0_4 gf [.int .i64 t, .int .i64 q, (.slice tv k cv)]) := HF.out.belowB b_ (by omega)
            have HS9 : Hid (Beside r w v0_4) := HS.out.onB (b_.mono (by omega))
            have HR9 : Hid (Rd v0_4 r s n c p9) := Rd.below' HR.out (b_.mono (by omega))
            clear hown9 hgrow9 b_ LB0 hi hz0 hz1 hz2 zf_ zr_
            go_simp
            refine hK.out _ _ (trivial) (fun hHeld => ?_)
            clear hK KK
            refine wpAnyH_take (i := 6) (v := .pointer (some ⟨gf, 2, none⟩)) rfl (by kernel_rfl) (by kernel_rfl) (by kernel_rfl) (fun _ _ _ h => h) (Or.inl ⟨by kernel_rfl, ?_⟩) hHeld ?_
            · intro w' hSw
              first | (go_simp; done) | (go_simp; with_reducible rfl) | (go_simp; rw [IntKind.wrap_i64]; omega) | (go_simp; omega)
            simp only [Act.put, List.setIfInBounds_toArray, List.set_cons_zero, List.set_cons_succ]
            refine wpAnyH_ready (rs := [7]) (by kernel_rfl) (by simp) ?_
            refine (AllReadyH.cons rfl (fun KK hK => ?_) AllReadyH.nil)
            have hl_ : v0_4.cell? ⟨gf, 2, none⟩ = some (.slice tv k cv) := HF9.out.2.2 2 _ rfl
            have hf_ : v0_4.frozen? ⟨gf, 2, none⟩ = false := HF9.out.2.1 2
            go_simp
            obtain ⟨v0_5, hv_⟩ : ∃ z, z = v0_4.setCell ⟨gf, 2, none⟩ (.slice (some ⟨g9, 0, none⟩) (k + 1) cap9) := ⟨_, rfl⟩
            rw [← hv_]
            have bs_ : Beside gf v0_4 v0_5 := by rw [hv_]; exact Beside.setCell gf _ _ _
            have zr9 : r < v0_4.heap.size := HR9.out.1
            have zf9 : gf < v0_4.heap.size := HF9.out.1
            have HF8 : Hid (Blk v0_5 gf [.int .i64 t, .int .i64 q, .slice (some ⟨g9, 0, none⟩) (k + 1) cap9]) := by show Blk _ _ _; rw [hv_]; exact HF9.out.set 2 _
            have HQ8 : Hid (Blk v0_5 gq [.int .i64 0, .int .i64 0, .slice none 0 0]) := HQ9.out.beside bs_ (by omega)
            have HL8 : Hid (Lst (gf + 1) 2 1 v0_5 (.slice (some ⟨g9, 0, none⟩) (k + 1) cap9) (k + 1) (putL U 1 k [a9])) := HL9.out.beside bs_ (by omega)
            have HS8 : Hid (Beside r w v0_5) := HS9.out.onB (bs_.below (by omega) (by have := HS9.out.2.2.2.1; omega))
            have HR8 : Hid (Rd v0_5 r s n c p9) := Rd.below' HR9.out (bs_.below (by omega) (by omega))
            clear hv_ bs_ zr9 zf9 hl_ hf_
            refine hK.out _ _ (trivial) (fun hHeld => ?_)
            clear hK KK
            refine wpAnyH_done (by kernel_rfl) ?_ _
            clear hHeld
            have HR := HR8
            have HS := HS8
            have HQ := HQ8
            have HF := HF8
            have HL := HL8
            clear HR8 HS8 HQ8 HF8 HL8 HR9 HS9 HQ9 HF9 HL9
            obtain ⟨tv2, cv2, ev2, hrow0⟩ := HL.out.own
            cases ev2
            rw [Nat.mul_one] at hrow0
            have hrow : ∀ W2, Beside gq v0_5 W2 → OwnI w.heap.size W2 (some ⟨g9, 0, none⟩) (k + 1) (putL U 1 k [a9]) := fun W2 hb => (OwnI.beside hrow0 hb (by omega)).mono (by omega)
            obtain ⟨zf, ff, cf⟩ := HF.out
            have f0 := cf 0 _ rfl
            have f1 := cf 1 _ rfl
            have f2 := cf 2 _ rfl
            obtain ⟨zq, fq, cq⟩ := HQ.out
            have g0 := cq 0 _ rfl
            have g1 := cq 1 _ rfl
            have g2 := cq 2 _ rfl
            have fq0 := fq 0
            have fq1 := fq 1
            have fq2 := fq 2
            have n_ : gf ≠ gq := by omega
            have BS := HS.out
            have sBS := BS.2.2.2.1
            have zq9 : w.heap.size ≤ gq := by have := HGQ.out; omega
            have hRB : ∀ W2, Below gq v0_5 W2 → Rd W2 r s n c p9 := fun W2 hb => Rd.below' HR.out (hb.mono (by omega))
            clear cf cq ff fq
            go_wp2
            refine bodyPost_ret (v := .agg #[.int .i64 t, .int .i64 q, .slice (some ⟨g9, 0, none⟩) (k + 1) cap9]) (by simp [results, Try.results39, go_sem, f0, f1, f2, g0, g1, g2, n_, n_.symm]) rfl ?_
            unfold FrmPost
            exact ⟨t, q, (some ⟨g9, 0, none⟩), (k + 1), cap9, _, p9, rfl, by omega, hrow _ (((Beside.setCell gq _ 0 _).trans (Beside.setCell gq _ 1 _)).trans (Beside.setCell gq _ 2 _)), hRB _ (show Below gq v0_5 _ from (by repeat (first | with_reducible exact Below.refl _ _ | with_reducible refine Below.setCell ?_ (by first | omega | (simp; done) | (simp; omega)) _ | with_reducible refine bDrewN ?_ _ | with_reducible refine Below.drew ?_ | with_reducible refine Below.alloc ?_ (by first | omega | (simp; done) | (simp; omega)) _))), BS.onB (show Below w.heap.size v0_5 _ from (by repeat (first | with_reducible exact Below.refl _ _ | with_reducible refine Below.setCell ?_ (by first | omega | (simp; done) | (simp; omega)) _ | with_reducible refine bDrewN ?_ _ | with_reducible refine Below.drew ?_ | with_reducible refine Below.alloc ?_ (by first | omega | (simp; done) | (simp; omega)) _)))⟩
          · go_simp
            go_wp2_with (first | (go_at_call 66; refine (off_any 0 65535 (by omega) (by omega) (by omega) HR).mono ?_; rintro e v0_6 ⟨a9, p9, rfl, -, R9, b9⟩; have zr9 : r < v0.heap.size := HR.out.1; replace HQ : Hid (Blk v0_6 gq [.int .i64 0, .int .i64 0, .slice none 0 0]) := HQ.out.beside b9 (by omega); replace HF : Hid (Blk v0_6 gf [.int .i64 t, .int .i64 q, (.slice tv k cv)]) := HF.out.beside b9 (by omega); replace HL : Hid (Lst (gf + 1) 2 1 v0_6 (.slice tv k cv) k U) := HL.out.beside b9 (by omega); replace HS : Hid (Beside r w v0_6) := HS.out.trans b9; replace HR : Hid (Rd v0_6 r s n c p9) := R9; clear R9 b9 zr9))
            refine hK.out _ _ (trivial) (fun hHeld => ?_)
            clear hK KK
            refine wpAnyH_ready (rs := [1, 4]) (by kernel_rfl) (by simp) ?_
            refine (AllReadyH.cons rfl (fun KK hK => ?_) (AllReadyH.cons rfl (fun KK hK => ?_) AllReadyH.nil))
            · have hl_ : v0_6.cell? ⟨gf, 2, none⟩ = some (.slice tv k cv) := HF.out.2.2 2 _ rfl
              go_simp
              clear hl_
              refine hK.out _ _ (trivial) (fun hHeld => ?_)
              clear hK KK
              refine wpAnyH_ready (rs := [4]) (by kernel_rfl) (by simp) ?_
              refine (AllReadyH.cons rfl (fun KK hK => ?_) AllReadyH.nil)
              go_simp
              obtain ⟨v0_8, hv_⟩ : ∃ z, z = v0_6.alloc (.cells #[.int .i64 a9] 2) := ⟨_, rfl⟩
              rw [← hv_]
              obtain ⟨lb, hlb⟩ : ∃ z, z = v0_6.heap.size := ⟨_, rfl⟩
              have b_ : Below v0_6.heap.size v0_6 v0_8 := by rw [hv_]; exact below0 _ _
              have LB0 : v0_8.cell? ⟨lb, 0, none⟩ = some (.int .i64 a9) := by rw [hv_, hlb]; simp [go_sem]
              replace HQ : Hid (Blk v0_8 gq [.int .i64 0, .int .i64 0, .slice none 0 0]) := HQ.out.below b_
              replace HF : Hid (Blk v0_8 gf [.int .i64 t, .int .i64 q, (.slice tv k cv)]) := HF.out.below b_
              replace HL : Hid (Lst (gf + 1) 2 1 v0_8 (.slice tv k cv) k U) := HL.out.below b_
              replace HS : Hid (Beside r w v0_8) := HS.out.trans (Beside.of b_)
              replace HR : Hid (Rd v0_8 r s n c p9) := HR.out.below b_
              try rw [← hlb]
              clear hv_ hlb b_
              refine hK.out _ _ (trivial) (fun hHeld => ?_)
              clear hK KK
              refine wpAnyH_ready (rs := [5]) (by kernel_rfl) (by simp) ?_
              refine (AllReadyH.cons rfl (fun KK hK => ?_) AllReadyH.nil)
              obtain ⟨i0, hi, hz0, hz1, hz2⟩ := info_parts info_i64L
              have zf_ : gf < v0_8.heap.size := HF.out.1
              have zr_ : r < v0_8.heap.size := HR.out.1
              refine wp_append_lies _ (.tmp 53) (.tmp 56) 24 (by rfl) (gf + 1) 2 i0 (.int .i64 0) 1 8 Try.underlying24 hi hz0 hz1 hz2 rfl (by decide) (.slice tv k cv) k _ (by rfl) HL.out ⟨lb, 0, none⟩ 1 1 [.int .i64 a9] (by rfl) rfl (news_oneF LB0) (by intro u hu; simp at hu; subst hu; rfl) (by decide) (by unfold maxLen; omega) (by omega) (by omega) _ rfl ?_
              intro g9 cap9 v0_9 hown9 hgrow9 _ _
              have HL9 : Hid (Lst (gf + 1) 2 1 v0_9 (.slice (some ⟨g9, 0, none⟩) (k + 1) cap9) (k + 1) (putL U 1 k [a9])) := HL.out.on (xs := [a9]) rfl hown9
              have b_ : Below (gf + 1) v0_8 v0_9 := grown_below hgrow9 (by omega) (own_block HL.out)
              have HQ9 : Hid (Blk v0_9 gq [.int .i64 0, .int .i64 0, .slice none 0 0]) := HQ.out.belowB b_ (by omega)
              have HF9 : Hid (Blk v0_9 gf [.int .i64 t, .int .i64 q, (.slice tv k cv)]) := HF.out.belowB b_ (by omega)
              have HS9 : Hid (Beside r w v0_9) := HS.out.onB (b_.mono (by omega))
              have HR9 : Hid (Rd v0_9 r s n c p9) := Rd.below' HR.out (b_.mono (by omega))
              clear hown9 hgrow9 b_ LB0 hi hz0 hz1 hz2 zf_ zr_
              go_simp
              refine hK.out _ _ (trivial) (fun hHeld => ?_)
              clear hK KK
              refine wpAnyH_take (i := 6) (v := .pointer (some ⟨gf, 2, none⟩)) rfl (by kernel_rfl) (by kernel_rfl) (by kernel_rfl) (fun _ _ _ h => h) (Or.inl ⟨by kernel_rfl, ?_⟩) hHeld ?_
              · intro w' hSw
                first | (go_simp; done) | (go_simp; with_reducible rfl) | (go_simp; rw [IntKind.wrap_i64]; omega) | (go_simp; omega)
              simp only [Act.put, List.setIfInBounds_toArray, List.set_cons_zero, List.set_cons_succ]
              refine wpAnyH_ready (rs := [7]) (by kernel_rfl) (by simp) ?_
              refine (AllReadyH.cons rfl (fun KK hK => ?_) AllReadyH.nil)
              have hl_ : v0_9.cell? ⟨gf, 2, none⟩ = some (.slice tv k cv) := HF9.out.2.2 2 _ rfl
              have hf_ : v0_9.frozen? ⟨gf, 2, none⟩ = false := HF9.out.2.1 2
              go_simp
              obtain ⟨v0_10, hv_⟩ : ∃ z, z = v0_9.setCell ⟨gf, 2, none⟩ (.slice (some ⟨g9, 0, none⟩) (k + 1) cap9) := ⟨_, rfl⟩
              rw [← hv_]
              have bs_ : Beside gf v0_9 v0_10 := by rw [hv_]; exact Beside.setCell gf _ _ _
              have zr9 : r < v0_9.heap.size := HR9.out.1
              have zf9 : gf < v0_9.heap.size := HF9.out.1
              have HF8 : Hid (Blk v0_10 gf [.int .i64 t, .int .i64 q, .slice (some ⟨g9, 0, none⟩) (k + 1) cap9]) := by show Blk _ _ _; rw [hv_]; exact HF9.out.set 2 _
              have HQ8 : Hid (Blk v0_10 gq [.int .i64 0, .int .i64 0, .slice none 0 0]) := HQ9.out.beside bs_ (by omega)
              have HL8 : Hid (Lst (gf + 1) 2 1 v0_10 (.slice (some ⟨g9, 0, none⟩) (k + 1) cap9) (k + 1) (putL U 1 k [a9])) := HL9.out.beside bs_ (by omega)
              have HS8 : Hid (Beside r w v0_10) := HS9.out.onB (bs_.below (by omega) (by have := HS9.out.2.2.2.1; omega))
              have HR8 : Hid (Rd v0_10 r s n c p9) := Rd.below' HR9.out (bs_.below (by omega) (by omega))
              clear hv_ bs_ zr9 zf9 hl_ hf_
              refine hK.out _ _ (trivial) (fun hHeld => ?_)
              clear hK KK
              refine wpAnyH_done (by kernel_rfl) ?_ _
              clear hHeld
              have HR := HR8
              have HS := HS8
              have HQ := HQ8
              have HF := HF8
              have HL := HL8
              clear HR8 HS8 HQ8 HF8 HL8 HR9 HS9 HQ9 HF9 HL9
              obtain ⟨tv2, cv2, ev2, hrow0⟩ := HL.out.own
              cases ev2
              rw [Nat.mul_one] at hrow0
              have hrow : ∀ W2, Beside gq v0_10 W2 → OwnI w.heap.size W2 (some ⟨g9, 0, none⟩) (k + 1) (putL U 1 k [a9]) := fun W2 hb => (OwnI.beside hrow0 hb (by omega)).mono (by omega)
              obtain ⟨zf, ff, cf⟩ := HF.out
              have f0 := cf 0 _ rfl
              have f1 := cf 1 _ rfl
              have f2 := cf 2 _ rfl
              obtain ⟨zq, fq, cq⟩ := HQ.out
              have g0 := cq 0 _ rfl
              have g1 := cq 1 _ rfl
              have g2 := cq 2 _ rfl
              have fq0 := fq 0
              have fq1 := fq 1
              have fq2 := fq 2
              have n_ : gf ≠ gq := by omega
              have BS := HS.out
              have sBS := BS.2.2.2.1
              have zq9 : w.heap.size ≤ gq := by have := HGQ.out; omega
              have hRB : ∀ W2, Below gq v0_10 W2 → Rd W2 r s n c p9 := fun W2 hb => Rd.below' HR.out (hb.mono (by omega))
              clear cf cq ff fq
              go_wp2
              refine bodyPost_ret (v := .agg #[.int .i64 t, .int .i64 q, .slice (some ⟨g9, 0, none⟩) (k + 1) cap9]) (by simp [results, Try.results39, go_sem, f0, f1, f2, g0, g1, g2, n_, n_.symm]) rfl ?_
              unfold FrmPost
              exact ⟨t, q, (some ⟨g9, 0, none⟩), (k + 1), cap9, _, p9, rfl, by omega, hrow _ (((Beside.setCell gq _ 0 _).trans (Beside.setCell gq _ 1 _)).trans (Beside.setCell gq _ 2 _)), hRB _ (show Below gq v0_10 _ from (by repeat (first | with_reducible exact Below.refl _ _ | with_reducible refine Below.setCell ?_ (by first | omega | (simp; done) | (simp; omega)) _ | with_reducible refine bDrewN ?_ _ | with_reducible refine Below.drew ?_ | with_reducible refine Below.alloc ?_ (by first | omega | (simp; done) | (simp; omega)) _))), BS.onB (show Below w.heap.size v0_10 _ from (by repeat (first | with_reducible exact Below.refl _ _ | with_reducible refine Below.setCell ?_ (by first | omega | (simp; done) | (simp; omega)) _ | with_reducible refine bDrewN ?_ _ | with_reducible refine Below.drew ?_ | with_reducible refine Below.alloc ?_ (by first | omega | (simp; done) | (simp; omega)) _)))⟩
            · go_simp
              obtain ⟨v0_11, hv_⟩ : ∃ z, z = v0_6.alloc (.cells #[.int .i64 a9] 2) := ⟨_, rfl⟩
              rw [← hv_]
              obtain ⟨lb, hlb⟩ : ∃ z, z = v0_6.heap.size := ⟨_, rfl⟩
              have b_ : Below v0_6.heap.size v0_6 v0_11 := by rw [hv_]; exact below0 _ _
              have LB0 : v0_11.cell? ⟨lb, 0, none⟩ = some (.int .i64 a9) := by rw [hv_, hlb]; simp [go_sem]
              replace HQ : Hid (Blk v0_11 gq [.int .i64 0, .int .i64 0, .slice none 0 0]) := HQ.out.below b_
              replace HF : Hid (Blk v0_11 gf [.int .i64 t, .int .i64 q, (.slice tv k cv)]) := HF.out.below b_
              replace HL : Hid (Lst (gf + 1) 2 1 v0_11 (.slice tv k cv) k U) := HL.out.below b_
              replace HS : Hid (Beside r w v0_11) := HS.out.trans (Beside.of b_)
              replace HR : Hid (Rd v0_11 r s n c p9) := HR.out.below b_
              try rw [← hlb]
              clear hv_ hlb b_
              refine hK.out _ _ (trivial) (fun hHeld => ?_)
              clear hK KK
              refine wpAnyH_ready (rs := [1]) (by kernel_rfl) (by simp) ?_
              refine (AllReadyH.cons rfl (fun KK hK => ?_) AllReadyH.nil)
              have hl_ : v0_11.cell? ⟨gf, 2, none⟩ = some (.slice tv k cv) := HF.out.2.2 2 _ rfl
              go_simp
              clear hl_
              refine hK.out _ _ (trivial) (fun hHeld => ?_)
              clear hK KK
              refine wpAnyH_ready (rs := [5]) (by kernel_rfl) (by simp) ?_
              refine (AllReadyH.cons rfl (fun KK hK => ?_) AllReadyH.nil)
              obtain ⟨i0, hi, hz0, hz1, hz2⟩ := info_parts info_i64L
              have zf_ : gf < v0_11.heap.size := HF.out.1
              have zr_ : r < v0_11.heap.size := HR.out.1
              refine wp_append_lies _ (.tmp 53) (.tmp 56) 24 (by rfl) (gf + 1) 2 i0 (.int .i64 0) 1 8 Try.underlying24 hi hz0 hz1 hz2 rfl (by decide) (.slice tv k cv) k _ (by rfl) HL.out ⟨lb, 0, none⟩ 1 1 [.int .i64 a9] (by rfl) rfl (news_oneF LB0) (by intro u hu; simp at hu; subst hu; rfl) (by decide) (by unfold maxLen; omega) (by omega) (by omega) _ rfl ?_
              intro g9 cap9 v0_13 hown9 hgrow9 _ _
              have HL9 : Hid (Lst (gf + 1) 2 1 v0_13 (.slice (some ⟨g9, 0, none⟩) (k + 1) cap9) (k + 1) (putL U 1 k [a9])) := HL.out.on (xs := [a9]) rfl hown9
              have b_ : Below (gf + 1) v0_11 v0_13 := grown_below hgrow9 (by omega) (own_block HL.out)
              have HQ9 : Hid (Blk v0_13 gq [.int .i64 0, .int .i64 0, .slice none 0 0]) := HQ.out.belowB b_ (by omega)
              have HF9 : Hid (Blk v0_13 gf [.int .i64 t, .int .i64 q, (.slice tv k cv)]) := HF.out.belowB b_ (by omega)
              have HS9 : Hid (Beside r w v0_13) := HS.out.onB (b_.mono (by omega))
              have HR9 : Hid (Rd v0_13 r s n c p9) := Rd.below' HR.out (b_.mono (by omega))
              clear hown9 hgrow9 b_ LB0 hi hz0 hz1 hz2 zf_ zr_
              go_simp
              refine hK.out _ _ (trivial) (fun hHeld => ?_)
              clear hK KK
              refine wpAnyH_take (i := 6) (v := .pointer (some ⟨gf, 2, none⟩)) rfl (by kernel_rfl) (by kernel_rfl) (by kernel_rfl) (fun _ _ _ h => h) (Or.inl ⟨by kernel_rfl, ?_⟩) hHeld ?_
              · intro w' hSw
                first | (go_simp; done) | (go_simp; with_reducible rfl) | (go_simp; rw [IntKind.wrap_i64]; omega) | (go_simp; omega)
              simp only [Act.put, List.setIfInBounds_toArray, List.set_cons_zero, List.set_cons_succ]
              refine wpAnyH_ready (rs := [7]) (by kernel_rfl) (by simp) ?_
              refine (AllReadyH.cons rfl (fun KK hK => ?_) AllReadyH.nil)
              have hl_ : v0_13.cell? ⟨gf, 2, none⟩ = some (.slice tv k cv) := HF9.out.2.2 2 _ rfl
              have hf_ : v0_13.frozen? ⟨gf, 2, none⟩ = false := HF9.out.2.1 2
              go_simp
              obtain ⟨v0_14, hv_⟩ : ∃ z, z = v0_13.setCell ⟨gf, 2, none⟩ (.slice (some ⟨g9, 0, none⟩) (k + 1) cap9) := ⟨_, rfl⟩
              rw [← hv_]
              have bs_ : Beside gf v0_13 v0_14 := by rw [hv_]; exact Beside.setCell gf _ _ _
              have zr9 : r < v0_13.heap.size := HR9.out.1
              have zf9 : gf < v0_13.heap.size := HF9.out.1
              have HF8 : Hid (Blk v0_14 gf [.int .i64 t, .int .i64 q, .slice (some ⟨g9, 0, none⟩) (k + 1) cap9]) := by show Blk _ _ _; rw [hv_]; exact HF9.out.set 2 _
              have HQ8 : Hid (Blk v0_14 gq [.int .i64 0, .int .i64 0, .slice none 0 0]) := HQ9.out.beside bs_ (by omega)
              have HL8 : Hid (Lst (gf + 1) 2 1 v0_14 (.slice (some ⟨g9, 0, none⟩) (k + 1) cap9) (k + 1) (putL U 1 k [a9])) := HL9.out.beside bs_ (by omega)
              have HS8 : Hid (Beside r w v0_14) := HS9.out.onB (bs_.below (by omega) (by have := HS9.out.2.2.2.1; omega))
              have HR8 : Hid (Rd v0_14 r s n c p9) := Rd.below' HR9.out (bs_.below (by omega) (by omega))
              clear hv_ bs_ zr9 zf9 hl_ hf_
              refine hK.out _ _ (trivial) (fun hHeld => ?_)
              clear hK KK
              refine wpAnyH_done (by kernel_rfl) ?_ _
              clear hHeld
              have HR := HR8
              have HS := HS8
              have HQ := HQ8
              have HF := HF8
              have HL := HL8
              clear HR8 HS8 HQ8 HF8 HL8 HR9 HS9 HQ9 HF9 HL9
              obtain ⟨tv2, cv2, ev2, hrow0⟩ := HL.out.own
              cases ev2
              rw [Nat.mul_one] at hrow0
              have hrow : ∀ W2, Beside gq v0_14 W2 → OwnI w.heap.size W2 (some ⟨g9, 0, none⟩) (k + 1) (putL U 1 k [a9]) := fun W2 hb => (OwnI.beside hrow0 hb (by omega)).mono (by omega)
              obtain ⟨zf, ff, cf⟩ := HF.out
              have f0 := cf 0 _ rfl
              have f1 := cf 1 _ rfl
              have f2 := cf 2 _ rfl
              obtain ⟨zq, fq, cq⟩ := HQ.out
              have g0 := cq 0 _ rfl
              have g1 := cq 1 _ rfl
              have g2 := cq 2 _ rfl
              have fq0 := fq 0
              have fq1 := fq 1
              have fq2 := fq 2
              have n_ : gf ≠ gq := by omega
              have BS := HS.out
              have sBS := BS.2.2.2.1
              have zq9 : w.heap.size ≤ gq := by have := HGQ.out; omega
              have hRB : ∀ W2, Below gq v0_14 W2 → Rd W2 r s n c p9 := fun W2 hb => Rd.below' HR.out (hb.mono (by omega))
              clear cf cq ff fq
              go_wp2
              refine bodyPost_ret (v := .agg #[.int .i64 t, .int .i64 q, .slice (some ⟨g9, 0, none⟩) (k + 1) cap9]) (by simp [results, Try.results39, go_sem, f0, f1, f2, g0, g1, g2, n_, n_.symm]) rfl ?_
              unfold FrmPost
              exact ⟨t, q, (some ⟨g9, 0, none⟩), (k + 1), cap9, _, p9, rfl, by omega, hrow _ (((Beside.setCell gq _ 0 _).trans (Beside.setCell gq _ 1 _)).trans (Beside.setCell gq _ 2 _)), hRB _ (show Below gq v0_14 _ from (by repeat (first | with_reducible exact Below.refl _ _ | with_reducible refine Below.setCell ?_ (by first | omega | (simp; done) | (simp; omega)) _ | with_reducible refine bDrewN ?_ _ | with_reducible refine Below.drew ?_ | with_reducible refine Below.alloc ?_ (by first | omega | (simp; done) | (simp; omega)) _))), BS.onB (show Below w.heap.size v0_14 _ from (by repeat (first | with_reducible exact Below.refl _ _ | with_reducible refine Below.setCell ?_ (by first | omega | (simp; done) | (simp; omega)) _ | with_reducible refine bDrewN ?_ _ | with_reducible refine Below.drew ?_ | with_reducible refine Below.alloc ?_ (by first | omega | (simp; done) | (simp; omega)) _)))⟩
        have ne3 : (kk == 3) = false := by simpa using e3
        obtain ⟨tv2, cv2, ev2, hrow0⟩ := HL.out.own
        cases ev2
        rw [Nat.mul_one] at hrow0
        have hrow : ∀ W2, Beside gq xw5 W2 → OwnI w.heap.size W2 tv (k) U := fun W2 hb => (OwnI.beside hrow0 hb (by omega)).mono (by omega)
        obtain ⟨zf, ff, cf⟩ := HF.out
        have f0 := cf 0 _ rfl
        have f1 := cf 1 _ rfl
        have f2 := cf 2 _ rfl
        obtain ⟨zq, fq, cq⟩ := HQ.out
        have g0 := cq 0 _ rfl
        have g1 := cq 1 _ rfl
        have g2 := cq 2 _ rfl
        have fq0 := fq 0
        have fq1 := fq 1
        have fq2 := fq 2
        have n_ : gf ≠ gq := by omega
        have BS := HS.out
        have sBS := BS.2.2.2.1
        have zq9 : w.heap.size ≤ gq := by have := HGQ.out; omega
        have hRB : ∀ W2, Below gq xw5 W2 → Rd W2 r s n c pk := fun W2 hb => Rd.below' HR.out (hb.mono (by omega))
        clear cf cq ff fq
        go_wp2
        refine bodyPost_ret (v := .agg #[.int .i64 t, .int .i64 q, .slice tv k cv]) (by simp [results, Try.results39, go_sem, f0, f1, f2, g0, g1, g2, n_, n_.symm]) rfl ?_
        unfold FrmPost
        exact ⟨t, q, tv, k, cv, _, pk, rfl, by omega, hrow _ (((Beside.setCell gq _ 0 _).trans (Beside.setCell gq _ 1 _)).trans (Beside.setCell gq _ 2 _)), hRB _ (show Below gq xw5 _ from (by repeat (first | with_reducible exact Below.refl _ _ | with_reducible refine Below.setCell ?_ (by first | omega | (simp; done) | (simp; omega)) _ | with_reducible refine bDrewN ?_ _ | with_reducible refine Below.drew ?_ | with_reducible refine Below.alloc ?_ (by first | omega | (simp; done) | (simp; omega)) _))), BS.onB (show Below w.heap.size xw5 _ from (by repeat (first | with_reducible exact Below.refl _ _ | with_reducible refine Below.setCell ?_ (by first | omega | (simp; done) | (simp; omega)) _ | with_reducible refine bDrewN ?_ _ | with_reducible refine Below.drew ?_ | with_reducible refine Below.alloc ?_ (by first | omega | (simp; done) | (simp; omega)) _)))⟩
end Go.Proofs.Ytkocbklkiehdiaa
