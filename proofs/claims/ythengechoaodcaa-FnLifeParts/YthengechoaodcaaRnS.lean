/-
What is proved: what the specification's Rain counts.
-/
import Derived.Test.YthengechoaodcaaRnB
import Derived.Deep.RegionHeldLaw
import Derived.RegionTactic
import Derived.Deep.AppendLies
namespace Go.Proofs.Ythengechoaodcaa
set_option maxRecDepth 40000
open Go.ChangeShapes Go.WideShapes Go.ChangeAt Go.RowKit
set_option linter.unusedVariables false
set_option linter.unusedSimpArgs false

theorem rnw_start {w w1 : World} {st : Option Addr} {T : List Int} (O : OwnI (w.alloc (.cells #[] 36)).heap.size w1 st T.length (nthI T)) (b : Below (w.alloc (.cells #[] 36)).heap.size (w.alloc (.cells #[] 36)) w1) : RnW w w1.heap.size st T (w1.alloc (.cells #[] 2)) (.slice (some ⟨w1.heap.size, 0, none⟩) 0 0) (.slice (some ⟨w.heap.size, 0, none⟩) 0 0) (rainT T 0).1 (rainT T 0).2 := by
  have z : (w.alloc (.cells #[] 36)).heap.size = w.heap.size + 1 := by simp
  have s1 := b.size
  have ba : Below w.heap.size w (w.alloc (.cells #[] 36)) := below0 _ _
  have b1 : Below w.heap.size w w1 := ba.trans (b.mono ba.size)
  have b2 : Below w1.heap.size w1 (w1.alloc (.cells #[] 2)) := below0 _ _
  refine ⟨b1.trans (b2.mono b1.size), by omega, b2.size, O.row.below b2, fun hT b o e => ?_, ?_, ?_, fun r hr => ?_⟩
  · obtain ⟨b', e', h1, h2, _⟩ := O 0 hT
    rw [e] at e'
    cases e'
    omega
  · show World.ownsRow _ _ _ _ _ 0 []
    simpa using World.ownsRow_lit (base := w1.heap.size) (size := 1) (e := 2) w1 #[] 0 (Nat.le_refl _) (by simp [maxLen]) (by simp)
  · show World.ownsRow _ _ _ _ _ 0 []
    have h0 : (w.alloc (.cells #[] 36)).ownsRow w.heap.size 36 2 (.slice (some ⟨w.heap.size, 0, none⟩) 0 0) 0 [] := by simpa using World.ownsRow_lit (base := w.heap.size) (size := 2) (e := 36) w #[] 0 (Nat.le_refl _) (by simp [maxLen]) (by simp)
    exact own_below (own_below h0 b) b2
  · left
    have : w.heap.size = r := by simpa [Value.ownBlock] using hr
    omega
theorem rnw_val {w W : World} {H : Nat} {st : Option Addr} {T s : List Int} {vs vo : Value} {o : List (Int × Int)} (h : RnW w H st T W vs vo s o) : ∃ ss cs, vs = .slice ss s.length cs := by
  rcases h.2.2.2.2.2.1.2 with ⟨e, q⟩ | ⟨g, cap, cur, e, _⟩
  · exact ⟨none, 0, by rw [e, q]⟩
  · exact ⟨_, cap, e⟩
set_option maxRecDepth 20000 in
set_option maxHeartbeats 8000000 in
theorem specRain_any (s : Option Addr) (n c : Nat) (V : Nat → Int) (w : World) (hn : (n : Int) ≤ 1048576) (HR : Hid (RowI w s n V)) :
    Calls Try.prog 9 #[.slice s n c] w fun e w' => RainP w (rainL (turnL n V)) e w' := by
  have HT4 := turnL_400 n V
  have HBd : Hid (Bd 100000 (turnL n V)) := turnL_bd n V
  have HTC : Hid (∀ W, RowI W s n V → Calls Try.prog 19 #[.slice s n c] W fun e w' => ∃ s' c', e = .returned (.slice s' (turnL n V).length c') ∧ OwnI W.heap.size w' s' (turnL n V).length (nthI (turnL n V)) ∧ Below W.heap.size W w') := fun W h => specTurnings_any s n c V W hn h
  generalize turnL n V = T at *
  obtain ⟨i0, hi, hz0, hz1, hz2⟩ := info_parts info_Swing
  obtain ⟨i1, hi1, hy0, hy1, hy2⟩ := info_parts info_i64
  have HI0 : Hid (Try.prog.info? 36 = some i0 ∧ i0.zero = some (.agg #[.int .i64 0, .int .i64 0]) ∧ i0.size = 2 ∧ i0.bytes = 16) := ⟨hi, hz0, hz1, hz2⟩
  have HI1 : Hid (Try.prog.info? 2 = some i1 ∧ i1.zero = some (.int .i64 0) ∧ i1.size = 1 ∧ i1.bytes = 8) := ⟨hi1, hy0, hy1, hy2⟩
  clear hi hz0 hz1 hz2 hi1 hy0 hy1 hy2
  go_enter Try.func9, Try.ntmps9
  go_wp2_with fail
  refine (HTC.out _ (HR.out.below (by repeat (first | with_reducible exact Below.refl _ _ | with_reducible refine Below.setCell ?_ (by first | omega | (simp; done) | (simp; omega)) _ | with_reducible refine bDrewN ?_ _ | with_reducible refine Below.drew ?_ | with_reducible refine Below.alloc ?_ (by first | omega | (simp; done) | (simp; omega)) _)))).mono ?_
  rintro e w1 ⟨st, ct, rfl, O1, b1⟩
  have HW : Hid (RnW w w1.heap.size st T (w1.alloc (.cells #[] 2)) (.slice (some ⟨w1.heap.size, 0, none⟩) 0 0) (.slice (some ⟨w.heap.size, 0, none⟩) 0 0) (rainT T 0).1 (rainT T 0).2) := rnw_start O1 b1
  clear O1 b1 HTC HR hn
  go_upto_region 4 with fail
  obtain ⟨w2, hw2⟩ : ∃ z, z = w1.alloc (.cells #[] 2) := ⟨_, rfl⟩
  rw [← hw2] at HW ⊢
  obtain ⟨H, hH⟩ : ∃ z, z = w1.heap.size := ⟨_, rfl⟩
  rw [← hH] at HW ⊢
  clear hH hw2
  go_wp2_with fail
  go_loopw [3, 5, 6] (fun vo vs i wx => ∃ k : Nat, k ≤ T.length ∧ i = .int .i64 k ∧ Hid (RnW w H st T wx vs vo (rainT T k).1 (rainT T k).2)) (fun _ _ i _ => T.length - (intOf i).toNat)
  case atStart => exact ⟨0, Nat.zero_le _, rfl, HW⟩
  case round =>
    clear HW
    obtain ⟨k, hk, rfl, HW⟩ := hrel
    by_cases hlt : k < T.length
    case neg =>
      obtain rfl : k = T.length := by omega
      have HBs : Hid (Bd 100000 (rainT T T.length).1) := bd_rainT (by decide) HBd.out _
      have hl := rainT_len T T.length
      have HE : Hid (rainL T = (rainT T T.length).2 ++ restS (rainT T T.length).1 ((rainT T T.length).1.length - 1)) := rfl
      obtain ⟨S, hS⟩ : ∃ z, (rainT T T.length).1 = z := ⟨_, rfl⟩
      obtain ⟨O, hO⟩ : ∃ z, (rainT T T.length).2 = z := ⟨_, rfl⟩
      rw [hS, hO] at HW HE hl
      rw [hS] at HBs
      clear hS hO hk hlt
      rename World => wa
      obtain ⟨ss, cs, ec⟩ := rnw_val HW.out
      subst ec
      obtain ⟨Sn, hSn⟩ : ∃ z, z = S.length := ⟨_, rfl⟩
      rw [← hSn] at HW ⊢
      have HSn : Hid (Sn = S.length) := hSn
      have hSO : Sn + O.length ≤ 400 := by omega
      clear hSn hl
      go_wp2_with fail
      go_loopw [3, 9] (fun vo i wx => ∃ j : Nat, i = .int .i64 (j + 1 : Nat) ∧ (j + 1 ≤ Sn ∨ j = 0) ∧ Hid (RnW w H st T wx (.slice ss Sn cs) vo S (O ++ restS S j))) (fun _ i _ => Sn + 1 - (intOf i).toNat)
      case atStart => exact ⟨0, rfl, .inr rfl, by show RnW _ _ _ _ _ _ _ _ _; simpa [restS] using HW.out⟩
      case round =>
        clear HW
        obtain ⟨j, rfl, hj, HW⟩ := hrel
        by_cases hjl : j + 1 < Sn
        case neg =>
          have HE2 : Hid (rainL T = O ++ restS S j) := by
            show _ = _
            rw [HE.out, ← HSn.out]
            rcases hj with q | q
            · rw [show Sn - 1 = j by omega]
            · subst q; rw [show Sn - 1 = 0 by omega]
          have hjl2 : ¬ ((j + 1 : Nat) : Int) < (Sn : Int) := by omega
          obtain ⟨h1, h2, h3, h4, h5, h6, h7, h8⟩ := HW.out
          rw [← HE2.out] at h7
          obtain ⟨so, co, rfl, ho⟩ := own_Swing h7
          have HO : Hid (OwnSwing w.heap.size wr so (rainL T).length (fun q => (rainL T).getD q (0, 0))) := ho
          clear h2 h3 h4 h5 h6 h7 h8 ho
          go_wp2
          go_ret
          unfold RainP
          exact ⟨so, co, rfl, HO.out, h1⟩
        obtain ⟨g, cap, e2, hcap, hgB, hgz, hcell⟩ := own_cells HW.out.2.2.2.2.2.1 (by rw [← HSn.out]; omega)
        injection e2 with e2 e3 e4
        subst e2 e4
        have cx := hcell (j + 1) (by rw [← HSn.out]; omega)
        have cy := hcell j (by rw [← HSn.out]; omega)
        have bx := bd_nth (by decide) HBs.out (j + 1)
        have by_ := bd_nth (by decide) HBs.out j
        obtain ⟨x, hx⟩ : ∃ z, nthI S (j + 1) = z := ⟨_, rfl⟩
        obtain ⟨y, hy⟩ : ∃ z, nthI S j = z := ⟨_, rfl⟩
        have HX : Hid (restS S (j + 1) = restS S j ++ [(apt x y, 1)]) := by show _ = _; rw [← hx, ← hy]; rfl
        rw [hx] at cx bx
        rw [hy] at cy by_
        have hl2 : (O ++ restS S j).length ≤ 1000 := by rw [List.length_append, rest_len]; omega
        obtain ⟨Q, hQ⟩ : ∃ z, O ++ restS S j = z := ⟨_, rfl⟩
        have HX2 : Hid (O ++ restS S (j + 1) = Q ++ [(apt x y, 1)]) := by show _ = _; rw [HX.out, ← List.append_assoc, hQ]
        rw [hQ] at HW hl2
        clear hQ HX
        obtain ⟨K, hK9⟩ : ∃ z, z = j + 1 := ⟨_, rfl⟩
        rw [← hK9] at cx hx ⊢
        have HXY : Hid (nthI S K = x ∧ nthI S j = y ∧ K < S.length ∧ j < S.length) := ⟨hx, hy, by rw [← HSn.out]; omega, by rw [← HSn.out]; omega⟩
        have HKj : Hid (K = j + 1) := hK9
        have hKj : (K : Int) - 1 = (j : Int) := by omega
        have hKN : (K : Int) < (Sn : Int) := by omega
        have hjN : (j : Int) < (Sn : Int) := by omega
        clear hcell hx hy e3 hcap hK9
        rename World => wq
        go_upto_region 20 with fail
        refine wp_region_held_drew (S := fun w' => w'.cell? ⟨g, K, none⟩ = some (.int .i64 x) ∧ w'.cell? ⟨g, j, none⟩ = some (.int .i64 y)) (by kernel_rfl) ?_ (fun hHeld => ?_)
        · exact ⟨by simpa [go_sem] using cx, by simpa [go_sem] using cy⟩
        refine wpAnyH_take (i := 0) (v := u3) rfl (by kernel_rfl) (by kernel_rfl) (by kernel_rfl) (fun _ _ _ h => h) (Or.inl ⟨by kernel_rfl, ?_⟩) hHeld ?_
        · intro w' hSw
          obtain ⟨s0_, s1_⟩ := hSw
          first | (go_simp; done) | (go_simp; with_reducible rfl) | (go_simp; rw [IntKind.wrap_i64]; omega) | (go_simp; omega)
        simp only [Act.put, List.setIfInBounds_toArray, List.set_cons_zero, List.set_cons_succ]
        refine wpAnyH_take (i := 1) (v := .slice (some ⟨g, 0, none⟩) Sn cs) rfl (by kernel_rfl) (by kernel_rfl) (by kernel_rfl) (fun _ _ _ h => h) (Or.inl ⟨by kernel_rfl, ?_⟩) hHeld ?_
        · intro w' hSw
          obtain ⟨s0_, s1_⟩ := hSw
          first | (go_simp; done) | (go_simp; with_reducible rfl) | (go_simp; rw [IntKind.wrap_i64]; omega) | (go_simp; omega)
        simp only [Act.put, List.setIfInBounds_toArray, List.set_cons_zero, List.set_cons_succ]
        refine wpAnyH_take (i := 2) (v := .int .i64 (K : Int)) rfl (by kernel_rfl) (by kernel_rfl) (by kernel_rfl) (fun _ _ _ h => h) (Or.inl ⟨by kernel_rfl, ?_⟩) hHeld ?_
        · intro w' hSw
          obtain ⟨s0_, s1_⟩ := hSw
          first | (go_simp; done) | (go_simp; with_reducible rfl) | (go_simp; rw [IntKind.wrap_i64]; omega) | (go_simp; omega)
        simp only [Act.put, List.setIfInBounds_toArray, List.set_cons_zero, List.set_cons_succ]
        refine wpAnyH_take (i := 3) (v := .pointer (some ⟨g, K, none⟩)) rfl (by kernel_rfl) (by kernel_rfl) (by kernel_rfl) (fun _ _ _ h => h) (Or.inl ⟨by kernel_rfl, ?_⟩) hHeld ?_
        · intro w' hSw
          obtain ⟨s0_, s1_⟩ := hSw
          first | (go_simp; done) | (go_simp; with_reducible rfl) | (go_simp; rw [IntKind.wrap_i64]; omega) | (go_simp; omega)
        simp only [Act.put, List.setIfInBounds_toArray, List.set_cons_zero, List.set_cons_succ]
        refine wpAnyH_take (i := 4) (v := .int .i64 x) rfl (by kernel_rfl) (by kernel_rfl) (by kernel_rfl) (fun _ _ _ h => h) (Or.inl ⟨by kernel_rfl, ?_⟩) hHeld ?_
        · intro w' hSw
          obtain ⟨s0_, s1_⟩ := hSw
          first | (go_simp; done) | (go_simp; with_reducible rfl) | (go_simp; rw [IntKind.wrap_i64]; omega) | (go_simp; omega)
        simp only [Act.put, List.setIfInBounds_toArray, List.set_cons_zero, List.set_cons_succ]
        refine wpAnyH_take (i := 5) (v := .slice (some ⟨g, 0, none⟩) Sn cs) rfl (by kernel_rfl) (by kernel_rfl) (by kernel_rfl) (fun _ _ _ h => h) (Or.inl ⟨by kernel_rfl, ?_⟩) hHeld ?_
        · intro w' hSw
          obtain ⟨s0_, s1_⟩ := hSw
          first | (go_simp; done) | (go_simp; with_reducible rfl) | (go_simp; rw [IntKind.wrap_i64]; omega) | (go_simp; omega)
        simp only [Act.put, List.setIfInBounds_toArray, List.set_cons_zero, List.set_cons_succ]
        refine wpAnyH_take (i := 6) (v := .int .i64 (K : Int)) rfl (by kernel_rfl) (by kernel_rfl) (by kernel_rfl) (fun _ _ _ h => h) (Or.inl ⟨by kernel_rfl, ?_⟩) hHeld ?_
        · intro w' hSw
          obtain ⟨s0_, s1_⟩ := hSw
          first | (go_simp; done) | (go_simp; with_reducible rfl) | (go_simp; rw [IntKind.wrap_i64]; omega) | (go_simp; omega)
        simp only [Act.put, List.setIfInBounds_toArray, List.set_cons_zero, List.set_cons_succ]
        refine wpAnyH_take (i := 7) (v := .int .i64 (j : Int)) rfl (by kernel_rfl) (by kernel_rfl) (by kernel_rfl) (fun _ _ _ h => h) (Or.inl ⟨by kernel_rfl, ?_⟩) hHeld ?_
        · intro w' hSw
          obtain ⟨s0_, s1_⟩ := hSw
          first | (go_simp; done) | (go_simp; with_reducible rfl) | (go_simp; rw [IntKind.wrap_i64]; omega) | (go_simp; omega)
        simp only [Act.put, List.setIfInBounds_toArray, List.set_cons_zero, List.set_cons_succ]
        refine wpAnyH_take (i := 8) (v := .pointer (some ⟨g, j, none⟩)) rfl (by kernel_rfl) (by kernel_rfl) (by kernel_rfl) (fun _ _ _ h => h) (Or.inl ⟨by kernel_rfl, ?_⟩) hHeld ?_
        · intro w' hSw
          obtain ⟨s0_, s1_⟩ := hSw
          first | (go_simp; done) | (go_simp; with_reducible rfl) | (go_simp; rw [IntKind.wrap_i64]; omega) | (go_simp; omega)
        simp only [Act.put, List.setIfInBounds_toArray, List.set_cons_zero, List.set_cons_succ]
        refine wpAnyH_take (i := 9) (v := .int .i64 y) rfl (by kernel_rfl) (by kernel_rfl) (by kernel_rfl) (fun _ _ _ h => h) (Or.inl ⟨by kernel_rfl, ?_⟩) hHeld ?_
        · intro w' hSw
          obtain ⟨s0_, s1_⟩ := hSw
          first | (go_simp; done) | (go_simp; with_reducible rfl) | (go_simp; rw [IntKind.wrap_i64]; omega) | (go_simp; omega)
        simp only [Act.put, List.setIfInBounds_toArray, List.set_cons_zero, List.set_cons_succ]
        obtain ⟨v0, hv0⟩ : ∃ z, z = wq.drew := ⟨_, rfl⟩
        rw [← hv0] at hHeld ⊢
        have bv0 : Below wq.heap.size wq v0 := by rw [hv0]; exact Below.drew (Below.refl _ _)
        clear hv0
        have HB9 : Hid (Below wq.heap.size wq v0) := bv0
        clear bv0
        refine wpAnyH_ready (rs := [10]) (by kernel_rfl) (by simp) ?_
        refine (AllReadyH.cons rfl (fun KK hK => ?_) AllReadyH.nil)
        go_simp
        go_wp2_with (first | (go_at_call 36; refine (l5Apart_any x y _ bx by_).mono ?_; rintro e v0_1 ⟨rfl, rfl⟩))
        refine hK.out _ _ (hHeld) (fun hHeld => ?_)
        clear hK KK
        refine wpAnyH_take (i := 11) (v := .agg #[.int .i64 (apt x y), .int .i64 1]) rfl (by kernel_rfl) (by kernel_rfl) (by kernel_rfl) (fun _ _ _ h => h) (Or.inl ⟨by kernel_rfl, ?_⟩) hHeld ?_
        · intro w' hSw
          obtain ⟨s0_, s1_⟩ := hSw
          first | (go_simp; done) | (go_simp; with_reducible rfl) | (go_simp; rw [IntKind.wrap_i64]; omega) | (go_simp; omega)
        simp only [Act.put, List.setIfInBounds_toArray, List.set_cons_zero, List.set_cons_succ]
        refine wpAnyH_ready (rs := [12]) (by kernel_rfl) (by simp) ?_
        refine (AllReadyH.cons rfl (fun KK hK => ?_) AllReadyH.nil)
        go_simp
        obtain ⟨v0_2, hv_⟩ : ∃ z, z = v0_1.alloc (.cells #[.int .i64 (apt x y), .int .i64 1] 36) := ⟨_, rfl⟩
        rw [← hv_]
        obtain ⟨lb, hlb⟩ : ∃ z, z = v0_1.heap.size := ⟨_, rfl⟩
        have hb9 : Below wq.heap.size wq v0_2 := by rw [hv_]; exact Below.trans HB9.out ((below0 _ _).mono HB9.out.size)
        have LB0 : v0_2.cell? ⟨lb, 0, none⟩ = some (.int .i64 (apt x y)) := by rw [hv_, hlb]; simp [go_sem]
        have LB1 : v0_2.cell? ⟨lb, 1, none⟩ = some (.int .i64 1) := by rw [hv_, hlb]; simp [go_sem]
        replace HB9 : Hid (Below wq.heap.size wq v0_2) := hb9
        try rw [← hlb]
        clear hv_ hlb hb9
        refine hK.out _ _ (⟨(HB9.out.cell (p := ⟨g, K, none⟩) hgz).trans cx, (HB9.out.cell (p := ⟨g, j, none⟩) hgz).trans cy⟩) (fun hHeld => ?_)
        clear hK KK
        refine wpAnyH_ready (rs := [13]) (by kernel_rfl) (by simp) ?_
        refine (AllReadyH.cons rfl (fun KK hK => ?_) AllReadyH.nil)
        have zB9 := HB9.out.size
        have zW9 := HW.out.1.size
        refine wp_append_lies _ (.tmp 94) (.tmp 106) 23 (by rfl) w.heap.size 36 i0 (.agg #[.int .i64 0, .int .i64 0]) 2 16 Try.underlying23 HI0.out.1 HI0.out.2.1 HI0.out.2.2.1 HI0.out.2.2.2 rfl (by decide) u3 Q.length (swC Q) (by rfl) (own_below HW.out.2.2.2.2.2.2.1 HB9.out) ⟨lb, 0, none⟩ 1 1 [.int .i64 (apt x y), .int .i64 1] (by rfl) rfl (news_two LB0 LB1) (by intro u hu; simp at hu; rcases hu with rfl | rfl <;> rfl) (by decide) (by unfold maxLen; omega) (by omega) (by omega) _ rfl ?_
        intro g9 cap9 v0_3 hown9 hgrow9 hat9 hlt9
        have HW9 : Hid (RnW w H st T v0_3 (.slice (some ⟨g, 0, none⟩) Sn cs) (.slice (some ⟨g9, 0, none⟩) (Q.length + 1) cap9) S (Q ++ [(apt x y, 1)])) := (HW.out.below HB9.out).out hown9 hgrow9 (hat9.imp id (fun q => Nat.le_of_eq q.symm))
        clear hown9 hgrow9 hat9 hlt9 HW HB9 LB0 LB1 zB9 zW9
        go_simp
        refine hK.out _ _ (⟨by rw [← HXY.out.1]; exact rnw_cell HW9.out K HXY.out.2.2.1, by rw [← HXY.out.2.1]; exact rnw_cell HW9.out j HXY.out.2.2.2⟩) (fun hHeld => ?_)
        clear hK KK
        refine wpAnyH_ready (rs := [14]) (by kernel_rfl) (by simp) ?_
        refine AllReadyH.cons rfl (fun KK hK => ?_) AllReadyH.nil
        go_simp
        refine hK.out _ _ hHeld (fun hHeld => ?_)
        clear hK KK
        refine wpAnyH_done (by kernel_rfl) ?_ _
        clear hHeld
        have HW8 : Hid (RnW w H st T v0_3 (.slice (some ⟨g, 0, none⟩) Sn cs) (.slice (some ⟨g9, 0, none⟩) (Q.length + 1) cap9) S (O ++ restS S (j + 1))) := by show RnW _ _ _ _ _ _ _ _ _; rw [HX2.out]; exact HW9.out
        clear HW9
        go_wp2
        go_roundw
        case rel => exact ⟨j + 1, by rw [HKj.out]; go_num, .inl (by omega), HW8⟩
        case measure => simp [intOf]; omega
    have k1 : (k : Int) < (T.length : Int) := by omega
    obtain ⟨tg, tp, rfl, htz, htc⟩ := HW.out.2.2.2.1 k hlt
    have hl := rainT_len T k
    obtain ⟨s0, hs0⟩ : ∃ z, (rainT T k).1 = z := ⟨_, rfl⟩
    obtain ⟨o0, ho0⟩ : ∃ z, (rainT T k).2 = z := ⟨_, rfl⟩
    have HWY : Hid (Way T k (s0 ++ [nthI T k]) o0) := by show Way _ _ _ _; rw [← hs0, ← ho0]; exact way_start T k
    have HBs : Hid (Bd 100000 (s0 ++ [nthI T k])) := by show Bd _ _; rw [← hs0]; exact bd_snoc (bd_rainT (by decide) HBd.out k) (bd_nth (by decide) HBd.out k)
    rw [hs0, ho0] at HW hl
    obtain ⟨x0, hx0⟩ : ∃ z, nthI T k = z := ⟨_, rfl⟩
    rw [hx0] at HWY HBs htc
    clear hs0 ho0 hx0
    rename World => wb
    have zw := HW.out.1.size
    have zh := HW.out.2.2.1
    go_upto_region 8 with (at_builtin; refine list_i64h H u5 s0.length (cellsOf s0) (.tmp 20) (.tmp 25) (by rfl) (by rfl) (by rfl) (by rfl) HW.out.2.2.2.2.2.1 (by omega) (by omega) ?_; intro g1 cap1 wc hown1 hgrow1 hlt1 hat1)
    have HW1 : Hid (RnW w H (some ⟨tg, tp, none⟩) T wc (.slice (some ⟨g1, 0, none⟩) (s0.length + 1) cap1) u3 (s0 ++ [x0]) o0) := HW.out.push hown1 hgrow1
    have HK1 : Hid (k < T.length ∧ k ≤ 400) := ⟨hlt, by omega⟩
    have HL0 : Hid (s0.length + o0.length ≤ k) := hl
    clear hown1 hgrow1 hlt1 hat1 HW htc zw zh hl htz
    go_wp2_with fail
    go_loopw [3, 5] (fun vo vs wx => ∃ (s1 : List Int) (o1 : List (Int × Int)), Hid (RnW w H (some ⟨tg, tp, none⟩) T wx vs vo s1 o1) ∧ Hid (Way T k s1 o1) ∧ Hid (Bd 100000 s1) ∧ s1.length ≤ 401) (fun _ vs _ => lenR vs)
    case atStart => exact ⟨s0 ++ [x0], o0, HW1, HWY, HBs, by have := HK1.out; have := HL0.out; simp; omega⟩
    case round =>
      clear HW1 HWY HBs
      obtain ⟨S, O, HW, HWY, HBs, hS4⟩ := hrel
      rename World => wq
      by_cases h2 : 2 < S.length
      case neg =>
        obtain ⟨ss, cs, ec⟩ := rnw_val HW.out
        subst ec
        have HE := way_end HWY.out (cut_small h2)
        have HW8 : Hid (RnW w H (some ⟨tg, tp, none⟩) T wq (.slice ss S.length cs) u3 (rainT T (k + 1)).1 (rainT T (k + 1)).2) := by show RnW _ _ _ _ _ _ _ _ _; rw [HE]; exact HW.out
        have h2i : ¬ (2 : Int) < (S.length : Int) := by omega
        clear HE
        go_wp2
        go_roundw
        case rel => exact ⟨k + 1, by omega, by go_num, HW8⟩
        case measure => simp [intOf]; omega
      obtain ⟨g, cap, e2, hcap, hgB, hgz, hcell⟩ := own_cells HW.out.2.2.2.2.2.1 (by omega)
      subst e2
      obtain ⟨m, hm⟩ : ∃ m, S.length = m + 3 := ⟨S.length - 3, by omega⟩
      have HM : Hid (S.length = m + 3) := hm
      have ca := hcell (m + 2) (by omega)
      have cb := hcell (m + 1) (by omega)
      have cc := hcell m (by omega)
      have ba := bd_nth (by decide) HBs.out (m + 2)
      have bb := bd_nth (by decide) HBs.out (m + 1)
      have bc := bd_nth (by decide) HBs.out m
      have hOl := way_len HWY.out
      have hO4 : O.length ≤ 401 := by have := HK1.out; omega
      have HC1 := fun q => cut_stay (s := S) hm q
      have HC2 := fun q z => cut_more (s := S) hm z q
      obtain ⟨a, ha⟩ : ∃ z, nthI S (m + 2) = z := ⟨_, rfl⟩
      obtain ⟨b, hb⟩ : ∃ z, nthI S (m + 1) = z := ⟨_, rfl⟩
      obtain ⟨d, hd⟩ : ∃ z, nthI S m = z := ⟨_, rfl⟩
      rw [ha, hb, hd] at HC1 HC2
      replace HC1 : Hid (apt a b < apt b d → cutS S = none) := HC1
      replace HC2 : Hid (¬ apt a b < apt b d → 0 < m → cutS S = some (S.take m ++ [a], (apt b d, 2))) := HC2
      have HABD : Hid (nthI S (m + 2) = a ∧ nthI S (m + 1) = b ∧ nthI S m = d) := ⟨ha, hb, hd⟩
      rw [ha] at ca ba
      rw [hb] at cb bb
      rw [hd] at cc bc
      obtain ⟨N, hN⟩ : ∃ N, S.length = N := ⟨_, rfl⟩
      have HN : Hid (S.length = N) := hN
      rw [hN] at HW hcap ⊢
      obtain ⟨m1, hm1⟩ : ∃ z, m + 1 = z := ⟨_, rfl⟩
      obtain ⟨m2, hm2⟩ : ∃ z, m + 2 = z := ⟨_, rfl⟩
      rw [hm1] at cb
      rw [hm2] at ca
      have N2 : (2 : Int) < (N : Int) := by omega
      have n1 : (N : Int) - 1 = (m2 : Int) := by omega
      have n2 : (N : Int) - 2 = (m1 : Int) := by omega
      have n3 : (N : Int) - 3 = (m : Int) := by omega
      have l1 : (m2 : Int) < (N : Int) := by omega
      have l2 : (m1 : Int) < (N : Int) := by omega
      have l3 : (m : Int) < (N : Int) := by omega
      have N4 : (N : Int) ≤ 401 := by omega
      clear hcell ha hb hd hm h2 hOl hN hm1 hm2
      go_upto_region 10 with fail
      refine wp_region_held_drew (S := fun w' => w'.cell? ⟨g, m2, none⟩ = some (.int .i64 a) ∧ w'.cell? ⟨g, m1, none⟩ = some (.int .i64 b) ∧ w'.cell? ⟨g, m, none⟩ = some (.int .i64 d)) (by kernel_rfl) ?_ (fun hHeld => ?_)
      · exact ⟨by simpa [go_sem] using ca, by simpa [go_sem] using cb, by simpa [go_sem] using cc⟩
      refine wpAnyH_take (i := 0) (v := .slice (some ⟨g, 0, none⟩) N cap) rfl (by kernel_rfl) (by kernel_rfl) (by kernel_rfl) (fun _ _ _ h => h) (Or.inl ⟨by kernel_rfl, ?_⟩) hHeld ?_
      · intro w' hSw
        obtain ⟨s0_, s1_, s2_⟩ := hSw
        first | (go_simp; done) | (go_simp; with_reducible rfl) | (go_simp; rw [IntKind.wrap_i64]; omega) | (go_simp; omega)
      simp only [Act.put, List.setIfInBounds_toArray, List.set_cons_zero, List.set_cons_succ]
      refine wpAnyH_take (i := 1) (v := .int .i64 (N : Int)) rfl (by kernel_rfl) (by kernel_rfl) (by kernel_rfl) (fun _ _ _ h => h) (Or.inl ⟨by kernel_rfl, ?_⟩) hHeld ?_
      · intro w' hSw
        obtain ⟨s0_, s1_, s2_⟩ := hSw
        first | (go_simp; done) | (go_simp; with_reducible rfl) | (go_simp; rw [IntKind.wrap_i64]; omega) | (go_simp; omega)
      simp only [Act.put, List.setIfInBounds_toArray, List.set_cons_zero, List.set_cons_succ]
      refine wpAnyH_take (i := 2) (v := .int .i64 (m1 : Int)) rfl (by kernel_rfl) (by kernel_rfl) (by kernel_rfl) (fun _ _ _ h => h) (Or.inl ⟨by kernel_rfl, ?_⟩) hHeld ?_
      · intro w' hSw
        obtain ⟨s0_, s1_, s2_⟩ := hSw
        first | (go_simp; done) | (go_simp; with_reducible rfl) | (go_simp; rw [IntKind.wrap_i64]; omega) | (go_simp; omega)
      simp only [Act.put, List.setIfInBounds_toArray, List.set_cons_zero, List.set_cons_succ]
      refine wpAnyH_take (i := 3) (v := .pointer (some ⟨g, m1, none⟩)) rfl (by kernel_rfl) (by kernel_rfl) (by kernel_rfl) (fun _ _ _ h => h) (Or.inl ⟨by kernel_rfl, ?_⟩) hHeld ?_
      · intro w' hSw
        obtain ⟨s0_, s1_, s2_⟩ := hSw
        first | (go_simp; done) | (go_simp; with_reducible rfl) | (go_simp; rw [IntKind.wrap_i64]; omega) | (go_simp; omega)
      simp only [Act.put, List.setIfInBounds_toArray, List.set_cons_zero, List.set_cons_succ]
      refine wpAnyH_take (i := 4) (v := .int .i64 b) rfl (by kernel_rfl) (by kernel_rfl) (by kernel_rfl) (fun _ _ _ h => h) (Or.inl ⟨by kernel_rfl, ?_⟩) hHeld ?_
      · intro w' hSw
        obtain ⟨s0_, s1_, s2_⟩ := hSw
        first | (go_simp; done) | (go_simp; with_reducible rfl) | (go_simp; rw [IntKind.wrap_i64]; omega) | (go_simp; omega)
      simp only [Act.put, List.setIfInBounds_toArray, List.set_cons_zero, List.set_cons_succ]
      refine wpAnyH_take (i := 5) (v := .slice (some ⟨g, 0, none⟩) N cap) rfl (by kernel_rfl) (by kernel_rfl) (by kernel_rfl) (fun _ _ _ h => h) (Or.inl ⟨by kernel_rfl, ?_⟩) hHeld ?_
      · intro w' hSw
        obtain ⟨s0_, s1_, s2_⟩ := hSw
        first | (go_simp; done) | (go_simp; with_reducible rfl) | (go_simp; rw [IntKind.wrap_i64]; omega) | (go_simp; omega)
      simp only [Act.put, List.setIfInBounds_toArray, List.set_cons_zero, List.set_cons_succ]
      refine wpAnyH_take (i := 6) (v := .int .i64 (N : Int)) rfl (by kernel_rfl) (by kernel_rfl) (by kernel_rfl) (fun _ _ _ h => h) (Or.inl ⟨by kernel_rfl, ?_⟩) hHeld ?_
      · intro w' hSw
        obtain ⟨s0_, s1_, s2_⟩ := hSw
        first | (go_simp; done) | (go_simp; with_reducible rfl) | (go_simp; rw [IntKind.wrap_i64]; omega) | (go_simp; omega)
      simp only [Act.put, List.setIfInBounds_toArray, List.set_cons_zero, List.set_cons_succ]
      refine wpAnyH_take (i := 7) (v := .int .i64 (m : Int)) rfl (by kernel_rfl) (by kernel_rfl) (by kernel_rfl) (fun _ _ _ h => h) (Or.inl ⟨by kernel_rfl, ?_⟩) hHeld ?_
      · intro w' hSw
        obtain ⟨s0_, s1_, s2_⟩ := hSw
        first | (go_simp; done) | (go_simp; with_reducible rfl) | (go_simp; rw [IntKind.wrap_i64]; omega) | (go_simp; omega)
      simp only [Act.put, List.setIfInBounds_toArray, List.set_cons_zero, List.set_cons_succ]
      refine wpAnyH_take (i := 8) (v := .pointer (some ⟨g, m, none⟩)) rfl (by kernel_rfl) (by kernel_rfl) (by kernel_rfl) (fun _ _ _ h => h) (Or.inl ⟨by kernel_rfl, ?_⟩) hHeld ?_
      · intro w' hSw
        obtain ⟨s0_, s1_, s2_⟩ := hSw
        first | (go_simp; done) | (go_simp; with_reducible rfl) | (go_simp; rw [IntKind.wrap_i64]; omega) | (go_simp; omega)
      simp only [Act.put, List.setIfInBounds_toArray, List.set_cons_zero, List.set_cons_succ]
      refine wpAnyH_take (i := 9) (v := .int .i64 d) rfl (by kernel_rfl) (by kernel_rfl) (by kernel_rfl) (fun _ _ _ h => h) (Or.inl ⟨by kernel_rfl, ?_⟩) hHeld ?_
      · intro w' hSw
        obtain ⟨s0_, s1_, s2_⟩ := hSw
        first | (go_simp; done) | (go_simp; with_reducible rfl) | (go_simp; rw [IntKind.wrap_i64]; omega) | (go_simp; omega)
      simp only [Act.put, List.setIfInBounds_toArray, List.set_cons_zero, List.set_cons_succ]
      obtain ⟨v0, hv0⟩ : ∃ z, z = wq.drew := ⟨_, rfl⟩
      rw [← hv0] at hHeld ⊢
      have bv0 : Below wq.heap.size wq v0 := by rw [hv0]; exact Below.drew (Below.refl _ _)
      clear hv0
      replace ca : v0.cell? ⟨g, m2, none⟩ = some (.int .i64 a) := (bv0.cell (p := ⟨g, m2, none⟩) hgz).trans ca
      replace cb : v0.cell? ⟨g, m1, none⟩ = some (.int .i64 b) := (bv0.cell (p := ⟨g, m1, none⟩) hgz).trans cb
      replace cc : v0.cell? ⟨g, m, none⟩ = some (.int .i64 d) := (bv0.cell (p := ⟨g, m, none⟩) hgz).trans cc
      replace HW : Hid (RnW w H (some ⟨tg, tp, none⟩) T v0 (.slice (some ⟨g, 0, none⟩) N cap) u3 S O) := HW.out.below bv0
      replace hgz : g < v0.heap.size := Nat.lt_of_lt_of_le hgz bv0.size
      clear bv0
      refine wpAnyH_ready (rs := [10]) (by kernel_rfl) (by simp) ?_
      refine (AllReadyH.cons rfl (fun KK hK => ?_) AllReadyH.nil)
      go_simp
      go_wp2_with (first | (go_at_call 36; refine (l5Apart_any b d _ bb bc).mono ?_; rintro e v0_1 ⟨rfl, rfl⟩))
      refine hK.out _ _ (hHeld) (fun hHeld => ?_)
      clear hK KK
      refine wpAnyH_ready (rs := [11]) (by kernel_rfl) (by simp) ?_
      refine AllReadyH.cons rfl (fun KK hK => ?_) AllReadyH.nil
      go_simp
      refine hK.out _ _ hHeld (fun hHeld => ?_)
      clear hK KK
      refine wpAnyH_done (by kernel_rfl) ?_ _
      clear hHeld
      go_upto_region 11 with fail
      refine wp_region_held_drew (S := fun w' => w'.cell? ⟨g, m2, none⟩ = some (.int .i64 a) ∧ w'.cell? ⟨g, m1, none⟩ = some (.int .i64 b) ∧ w'.cell? ⟨g, m, none⟩ = some (.int .i64 d)) (by kernel_rfl) ?_ (fun hHeld => ?_)
      · exact ⟨by simpa [go_sem] using ca, by simpa [go_sem] using cb, by simpa [go_sem] using cc⟩
      refine wpAnyH_take (i := 0) (v := .slice (some ⟨g, 0, none⟩) N cap) rfl (by kernel_rfl) (by kernel_rfl) (by kernel_rfl) (fun _ _ _ h => h) (Or.inl ⟨by kernel_rfl, ?_⟩) hHeld ?_
      · intro w' hSw
        obtain ⟨s0_, s1_, s2_⟩ := hSw
        first | (go_simp; done) | (go_simp; with_reducible rfl) | (go_simp; rw [IntKind.wrap_i64]; omega) | (go_simp; omega)
      simp only [Act.put, List.setIfInBounds_toArray, List.set_cons_zero, List.set_cons_succ]
      refine wpAnyH_take (i := 1) (v := .int .i64 (N : Int)) rfl (by kernel_rfl) (by kernel_rfl) (by kernel_rfl) (fun _ _ _ h => h) (Or.inl ⟨by kernel_rfl, ?_⟩) hHeld ?_
      · intro w' hSw
        obtain ⟨s0_, s1_, s2_⟩ := hSw
        first | (go_simp; done) | (go_simp; with_reducible rfl) | (go_simp; rw [IntKind.wrap_i64]; omega) | (go_simp; omega)
      simp only [Act.put, List.setIfInBounds_toArray, List.set_cons_zero, List.set_cons_succ]
      refine wpAnyH_take (i := 2) (v := .int .i64 (m2 : Int)) rfl (by kernel_rfl) (by kernel_rfl) (by kernel_rfl) (fun _ _ _ h => h) (Or.inl ⟨by kernel_rfl, ?_⟩) hHeld ?_
      · intro w' hSw
        obtain ⟨s0_, s1_, s2_⟩ := hSw
        first | (go_simp; done) | (go_simp; with_reducible rfl) | (go_simp; rw [IntKind.wrap_i64]; omega) | (go_simp; omega)
      simp only [Act.put, List.setIfInBounds_toArray, List.set_cons_zero, List.set_cons_succ]
      refine wpAnyH_take (i := 3) (v := .pointer (some ⟨g, m2, none⟩)) rfl (by kernel_rfl) (by kernel_rfl) (by kernel_rfl) (fun _ _ _ h => h) (Or.inl ⟨by kernel_rfl, ?_⟩) hHeld ?_
      · intro w' hSw
        obtain ⟨s0_, s1_, s2_⟩ := hSw
        first | (go_simp; done) | (go_simp; with_reducible rfl) | (go_simp; rw [IntKind.wrap_i64]; omega) | (go_simp; omega)
      simp only [Act.put, List.setIfInBounds_toArray, List.set_cons_zero, List.set_cons_succ]
      refine wpAnyH_take (i := 4) (v := .int .i64 a) rfl (by kernel_rfl) (by kernel_rfl) (by kernel_rfl) (fun _ _ _ h => h) (Or.inl ⟨by kernel_rfl, ?_⟩) hHeld ?_
      · intro w' hSw
        obtain ⟨s0_, s1_, s2_⟩ := hSw
        first | (go_simp; done) | (go_simp; with_reducible rfl) | (go_simp; rw [IntKind.wrap_i64]; omega) | (go_simp; omega)
      simp only [Act.put, List.setIfInBounds_toArray, List.set_cons_zero, List.set_cons_succ]
      refine wpAnyH_take (i := 5) (v := .slice (some ⟨g, 0, none⟩) N cap) rfl (by kernel_rfl) (by kernel_rfl) (by kernel_rfl) (fun _ _ _ h => h) (Or.inl ⟨by kernel_rfl, ?_⟩) hHeld ?_
      · intro w' hSw
        obtain ⟨s0_, s1_, s2_⟩ := hSw
        first | (go_simp; done) | (go_simp; with_reducible rfl) | (go_simp; rw [IntKind.wrap_i64]; omega) | (go_simp; omega)
      simp only [Act.put, List.setIfInBounds_toArray, List.set_cons_zero, List.set_cons_succ]
      refine wpAnyH_take (i := 6) (v := .int .i64 (N : Int)) rfl (by kernel_rfl) (by kernel_rfl) (by kernel_rfl) (fun _ _ _ h => h) (Or.inl ⟨by kernel_rfl, ?_⟩) hHeld ?_
      · intro w' hSw
        obtain ⟨s0_, s1_, s2_⟩ := hSw
        first | (go_simp; done) | (go_simp; with_reducible rfl) | (go_simp; rw [IntKind.wrap_i64]; omega) | (go_simp; omega)
      simp only [Act.put, List.setIfInBounds_toArray, List.set_cons_zero, List.set_cons_succ]
      refine wpAnyH_take (i := 7) (v := .int .i64 (m1 : Int)) rfl (by kernel_rfl) (by kernel_rfl) (by kernel_rfl) (fun _ _ _ h => h) (Or.inl ⟨by kernel_rfl, ?_⟩) hHeld ?_
      · intro w' hSw
        obtain ⟨s0_, s1_, s2_⟩ := hSw
        first | (go_simp; done) | (go_simp; with_reducible rfl) | (go_simp; rw [IntKind.wrap_i64]; omega) | (go_simp; omega)
      simp only [Act.put, List.setIfInBounds_toArray, List.set_cons_zero, List.set_cons_succ]
      refine wpAnyH_take (i := 8) (v := .pointer (some ⟨g, m1, none⟩)) rfl (by kernel_rfl) (by kernel_rfl) (by kernel_rfl) (fun _ _ _ h => h) (Or.inl ⟨by kernel_rfl, ?_⟩) hHeld ?_
      · intro w' hSw
        obtain ⟨s0_, s1_, s2_⟩ := hSw
        first | (go_simp; done) | (go_simp; with_reducible rfl) | (go_simp; rw [IntKind.wrap_i64]; omega) | (go_simp; omega)
      simp only [Act.put, List.setIfInBounds_toArray, List.set_cons_zero, List.set_cons_succ]
      refine wpAnyH_take (i := 9) (v := .int .i64 b) rfl (by kernel_rfl) (by kernel_rfl) (by kernel_rfl) (fun _ _ _ h => h) (Or.inl ⟨by kernel_rfl, ?_⟩) hHeld ?_
      · intro w' hSw
        obtain ⟨s0_, s1_, s2_⟩ := hSw
        first | (go_simp; done) | (go_simp; with_reducible rfl) | (go_simp; rw [IntKind.wrap_i64]; omega) | (go_simp; omega)
      simp only [Act.put, List.setIfInBounds_toArray, List.set_cons_zero, List.set_cons_succ]
      refine wpAnyH_take (i := 11) (v := .int .i64 (apt b d)) rfl (by kernel_rfl) (by kernel_rfl) (by kernel_rfl) (fun _ _ _ h => h) (Or.inl ⟨by kernel_rfl, ?_⟩) hHeld ?_
      · intro w' hSw
        obtain ⟨s0_, s1_, s2_⟩ := hSw
        first | (go_simp; done) | (go_simp; with_reducible rfl) | (go_simp; rw [IntKind.wrap_i64]; omega) | (go_simp; omega)
      simp only [Act.put, List.setIfInBounds_toArray, List.set_cons_zero, List.set_cons_succ]
      obtain ⟨x0_, hv0⟩ : ∃ z, z = v0_1.drew := ⟨_, rfl⟩
      rw [← hv0] at hHeld ⊢
      have bv0 : Below v0_1.heap.size v0_1 x0_ := by rw [hv0]; exact Below.drew (Below.refl _ _)
      clear hv0
      replace ca : x0_.cell? ⟨g, m2, none⟩ = some (.int .i64 a) := (bv0.cell (p := ⟨g, m2, none⟩) hgz).trans ca
      replace cb : x0_.cell? ⟨g, m1, none⟩ = some (.int .i64 b) := (bv0.cell (p := ⟨g, m1, none⟩) hgz).trans cb
      replace cc : x0_.cell? ⟨g, m, none⟩ = some (.int .i64 d) := (bv0.cell (p := ⟨g, m, none⟩) hgz).trans cc
      replace HW : Hid (RnW w H (some ⟨tg, tp, none⟩) T x0_ (.slice (some ⟨g, 0, none⟩) N cap) u3 S O) := HW.out.below bv0
      replace hgz : g < x0_.heap.size := Nat.lt_of_lt_of_le hgz bv0.size
      clear bv0
      refine wpAnyH_ready (rs := [10]) (by kernel_rfl) (by simp) ?_
      refine (AllReadyH.cons rfl (fun KK hK => ?_) AllReadyH.nil)
      go_simp
      go_wp2_with (first | (go_at_call 36; refine (l5Apart_any a b _ ba bb).mono ?_; rintro e x0__1 ⟨rfl, rfl⟩))
      refine hK.out _ _ (hHeld) (fun hHeld => ?_)
      clear hK KK
      refine wpAnyH_ready (rs := [12]) (by kernel_rfl) (by simp) ?_
      refine AllReadyH.cons rfl (fun KK hK => ?_) AllReadyH.nil
      go_simp
      refine hK.out _ _ hHeld (fun hHeld => ?_)
      clear hK KK
      refine wpAnyH_done (by kernel_rfl) ?_ _
      clear hHeld
      by_cases hap : apt a b < apt b d
      case pos =>
        have HE := way_end HWY.out (HC1.out hap)
        have HW8 : Hid (RnW w H (some ⟨tg, tp, none⟩) T x0__1 (.slice (some ⟨g, 0, none⟩) N cap) u3 (rainT T (k + 1)).1 (rainT T (k + 1)).2) := by show RnW _ _ _ _ _ _ _ _ _; rw [HE]; exact HW.out
        clear HE
        go_wp2
        go_roundw
        case rel => exact ⟨k + 1, by have := HK1.out.1; omega, by go_num, HW8⟩
        case measure => have := HK1.out.1; simp [intOf]; omega
      have zw := HW.out.1.size
      have zh := HW.out.2.2.1
      by_cases h3 : m = 0
      case pos =>
        have HC3 : Hid (cutS S = some ([b, a], (apt b d, 1))) := by
          have hm := HM.out
          have h4 := HABD.out
          rw [h3] at hm h4
          have := cut_three hm (by rw [h4.1, h4.2.1, h4.2.2]; exact hap)
          simp only [Nat.zero_add] at this h4
          rw [h4.1, h4.2.1, h4.2.2] at this
          exact this
        have e3 : (N : Int) = 3 := by omega
        have HWY2 : Hid (Way T k [b, a] (O ++ [(apt b d, 1)])) := way_on HWY.out HC3.out
        have HBs2 : Hid (Bd 100000 [b, a]) := bd_cut (by decide) HBs.out HC3.out
        obtain rfl : m1 = 1 := by omega
        obtain rfl : m2 = 2 := by omega
        have N3 : N = 3 := by omega
        have HB12 : Hid (nthI S 1 = b ∧ nthI S 2 = a) := ⟨HABD.out.2.1.symm ▸ (by rw [h3]), HABD.out.1.symm ▸ (by rw [h3])⟩
        have beq3 : ((N : Int) == 3) = true := by rw [e3]; rfl
        have HN3 : Hid (N = 3) := N3
        have g1N : (1 : Int) < (N : Int) := by omega
        have g2N : (2 : Int) < (N : Int) := by omega
        clear N3 e3 n1 n2 n3 HC1 HC2 HM HABD HWY HC3 h3
        go_upto_region 14 with (at_builtin; refine list_Swing w.heap.size u3 O.length (swC O) (.tmp 58) (.tmp 61) (by rfl) (by rfl) (by rfl) (by rfl) HW.out.2.2.2.2.2.2.1 (by omega) (by omega) ?_; intro g1 cap1 wd hown1 hgrow1 hlt1 hat1)
        have HW1 : Hid (RnW w H (some ⟨tg, tp, none⟩) T wd (.slice (some ⟨g, 0, none⟩) N cap) (.slice (some ⟨g1, 0, none⟩) (O.length + 1) cap1) S (O ++ [(apt b d, 1)])) := HW.out.out hown1 hgrow1 (hat1.imp id Nat.le_of_lt)
        have c1 : wd.cell? ⟨g, 1, none⟩ = some (.int .i64 b) := by have := rnw_cell HW1.out 1 (by rw [HN.out]; omega); rwa [HB12.out.1] at this
        have c2 : wd.cell? ⟨g, 2, none⟩ = some (.int .i64 a) := by have := rnw_cell HW1.out 2 (by rw [HN.out]; omega); rwa [HB12.out.2] at this
        have hgd : g < wd.heap.size := Nat.lt_of_lt_of_le hgz hgrow1.size
        have zh1 := HW1.out.2.2.1
        clear hown1 hgrow1 hlt1 hat1 HW ca cb cc
        refine wp_region_held_drew (S := fun w' => w'.cell? ⟨g, 1, none⟩ = some (.int .i64 b) ∧ w'.cell? ⟨g, 2, none⟩ = some (.int .i64 a)) (by kernel_rfl) ?_ (fun hHeld => ?_)
        · exact ⟨by simpa [go_sem] using c1, by simpa [go_sem] using c2⟩
        refine wpAnyH_take (i := 0) (v := .slice (some ⟨g, 0, none⟩) N cap) rfl (by kernel_rfl) (by kernel_rfl) (by kernel_rfl) (fun _ _ _ h => h) (Or.inl ⟨by kernel_rfl, ?_⟩) hHeld ?_
        · intro w' hSw
          obtain ⟨s0_, s1_⟩ := hSw
          first | (go_simp; done) | (go_simp; with_reducible rfl) | (go_simp; rw [IntKind.wrap_i64]; omega) | (go_simp; omega)
        simp only [Act.put, List.setIfInBounds_toArray, List.set_cons_zero, List.set_cons_succ]
        refine wpAnyH_take (i := 1) (v := .pointer (some ⟨g, 1, none⟩)) rfl (by kernel_rfl) (by kernel_rfl) (by kernel_rfl) (fun _ _ _ h => h) (Or.inl ⟨by kernel_rfl, ?_⟩) hHeld ?_
        · intro w' hSw
          obtain ⟨s0_, s1_⟩ := hSw
          first | (go_simp; done) | (go_simp; with_reducible rfl) | (go_simp; rw [IntKind.wrap_i64]; omega) | (go_simp; omega)
        simp only [Act.put, List.setIfInBounds_toArray, List.set_cons_zero, List.set_cons_succ]
        refine wpAnyH_take (i := 2) (v := .int .i64 b) rfl (by kernel_rfl) (by kernel_rfl) (by kernel_rfl) (fun _ _ _ h => h) (Or.inl ⟨by kernel_rfl, ?_⟩) hHeld ?_
        · intro w' hSw
          obtain ⟨s0_, s1_⟩ := hSw
          first | (go_simp; done) | (go_simp; with_reducible rfl) | (go_simp; rw [IntKind.wrap_i64]; omega) | (go_simp; omega)
        simp only [Act.put, List.setIfInBounds_toArray, List.set_cons_zero, List.set_cons_succ]
        refine wpAnyH_take (i := 3) (v := .slice (some ⟨g, 0, none⟩) N cap) rfl (by kernel_rfl) (by kernel_rfl) (by kernel_rfl) (fun _ _ _ h => h) (Or.inl ⟨by kernel_rfl, ?_⟩) hHeld ?_
        · intro w' hSw
          obtain ⟨s0_, s1_⟩ := hSw
          first | (go_simp; done) | (go_simp; with_reducible rfl) | (go_simp; rw [IntKind.wrap_i64]; omega) | (go_simp; omega)
        simp only [Act.put, List.setIfInBounds_toArray, List.set_cons_zero, List.set_cons_succ]
        refine wpAnyH_take (i := 4) (v := .pointer (some ⟨g, 2, none⟩)) rfl (by kernel_rfl) (by kernel_rfl) (by kernel_rfl) (fun _ _ _ h => h) (Or.inl ⟨by kernel_rfl, ?_⟩) hHeld ?_
        · intro w' hSw
          obtain ⟨s0_, s1_⟩ := hSw
          first | (go_simp; done) | (go_simp; with_reducible rfl) | (go_simp; rw [IntKind.wrap_i64]; omega) | (go_simp; omega)
        simp only [Act.put, List.setIfInBounds_toArray, List.set_cons_zero, List.set_cons_succ]
        refine wpAnyH_take (i := 5) (v := .int .i64 a) rfl (by kernel_rfl) (by kernel_rfl) (by kernel_rfl) (fun _ _ _ h => h) (Or.inl ⟨by kernel_rfl, ?_⟩) hHeld ?_
        · intro w' hSw
          obtain ⟨s0_, s1_⟩ := hSw
          first | (go_simp; done) | (go_simp; with_reducible rfl) | (go_simp; rw [IntKind.wrap_i64]; omega) | (go_simp; omega)
        simp only [Act.put, List.setIfInBounds_toArray, List.set_cons_zero, List.set_cons_succ]
        obtain ⟨v0, hv0⟩ : ∃ z, z = wd.drew := ⟨_, rfl⟩
        rw [← hv0] at hHeld ⊢
        have bv0 : Below wd.heap.size wd v0 := by rw [hv0]; exact Below.drew (Below.refl _ _)
        clear hv0
        refine wpAnyH_ready (rs := [6]) (by kernel_rfl) (by simp) ?_
        refine (AllReadyH.cons rfl (fun KK hK => ?_) AllReadyH.nil)
        go_simp
        obtain ⟨v0_1, hv_⟩ : ∃ z, z = v0.alloc (.cells #[.int .i64 b, .int .i64 a] 2) := ⟨_, rfl⟩
        rw [← hv_]
        have HB9 : Hid (Below wd.heap.size wd v0_1) := by show Below _ _ _; rw [hv_]; exact bv0.trans ((below0 _ _).mono bv0.size)
        have HO9 : Hid (v0_1.ownsRow H 2 1 (.slice (some ⟨v0.heap.size, 0, none⟩) 2 2) 2 (cellsOf [b, a])) := by show World.ownsRow _ _ _ _ _ _ _; rw [hv_]; simpa [cellsOf] using World.ownsRow_lit (base := H) (size := 1) (e := 2) v0 #[.int .i64 b, .int .i64 a] 2 (by have := bv0.size; omega) (by simp [maxLen]) (by simp)
        clear hv_ bv0
        refine hK.out _ _ (⟨(HB9.out.cell (p := ⟨g, 1, none⟩) hgd).trans c1, (HB9.out.cell (p := ⟨g, 2, none⟩) hgd).trans c2⟩) (fun hHeld => ?_)
        clear hK KK
        refine wpAnyH_ready (rs := [7]) (by kernel_rfl) (by simp) ?_
        refine AllReadyH.cons rfl (fun KK hK => ?_) AllReadyH.nil
        go_simp
        refine hK.out _ _ hHeld (fun hHeld => ?_)
        clear hK KK
        refine wpAnyH_done (by kernel_rfl) ?_ _
        clear hHeld
        have HW8 : Hid (RnW w H (some ⟨tg, tp, none⟩) T v0_1 (.slice (some ⟨v0.heap.size, 0, none⟩) 2 2) (.slice (some ⟨g1, 0, none⟩) (O.length + 1) cap1) [b, a] (O ++ [(apt b d, 1)])) := HW1.out.fresh HB9.out HO9.out
        clear HB9 HO9 HW1 c1 c2
        go_wp2
        go_roundw
        case rel => exact ⟨[b, a], O ++ [(apt b d, 1)], HW8, HWY2, HBs2, by simp⟩
        case measure => have := HN3.out; simp [lenR]; omega
      have HCM := HC2.out (by omega) (by omega)
      have HWY2 : Hid (Way T k (S.take m ++ [a]) (O ++ [(apt b d, 2)])) := way_on HWY.out HCM
      have HBs2 : Hid (Bd 100000 (S.take m ++ [a])) := bd_cut (by decide) HBs.out HCM
      have beq3 : ((N : Int) == 3) = false := by simp; omega
      have HL8 : Hid ((S.take m).length = m ∧ m + 3 = N) := ⟨by rw [List.length_take]; have := HM.out; omega, by have := HM.out; have := HN.out; omega⟩
      have mcap : (m : Int) ≤ (cap : Int) := by omega
      have HMN : Hid (m + 2 = m2) := by show _ = _; omega
      have N4b : N ≤ 401 := by omega
      have m4b : m ≤ 401 := by omega
      clear HC1 HC2 HCM h3
      go_upto_region 16 with (at_builtin; refine list_Swing w.heap.size u3 O.length (swC O) (.tmp 70) (.tmp 73) (by rfl) (by rfl) (by rfl) (by rfl) HW.out.2.2.2.2.2.2.1 (by omega) (by omega) ?_; intro g1 cap1 wd hown1 hgrow1 hlt1 hat1)
      have HW1 : Hid (RnW w H (some ⟨tg, tp, none⟩) T wd (.slice (some ⟨g, 0, none⟩) N cap) (.slice (some ⟨g1, 0, none⟩) (O.length + 1) cap1) S (O ++ [(apt b d, 2)])) := HW.out.out hown1 hgrow1 (hat1.imp id Nat.le_of_lt)
      have HCS : Hid (∀ j, j < S.length → wd.cell? ⟨g, j, none⟩ = some (.int .i64 (nthI S j))) := fun j hj => rnw_cell HW1.out j hj
      have c2 : wd.cell? ⟨g, m2, none⟩ = some (.int .i64 a) := by have := HCS.out m2 (by rw [HN.out]; omega); rwa [← HMN.out, HABD.out.1, HMN.out] at this
      have hgd : g < wd.heap.size := Nat.lt_of_lt_of_le hgz hgrow1.size
      have zh1 := HW1.out.2.2.1
      clear hown1 hgrow1 hlt1 hat1 HW ca cb cc
      refine wp_region_held_drew (S := fun w' => w'.cell? ⟨g, m2, none⟩ = some (.int .i64 a)) (by kernel_rfl) ?_ (fun hHeld => ?_)
      · exact (by simpa [go_sem] using c2)
      refine wpAnyH_take (i := 1) (v := .slice (some ⟨g, 0, none⟩) N cap) rfl (by kernel_rfl) (by kernel_rfl) (by kernel_rfl) (fun _ _ _ h => h) (Or.inl ⟨by kernel_rfl, ?_⟩) hHeld ?_
      · intro w' hSw
        first | (go_simp; done) | (go_simp; with_reducible rfl) | (go_simp; rw [IntKind.wrap_i64]; omega) | (go_simp; omega)
      simp only [Act.put, List.setIfInBounds_toArray, List.set_cons_zero, List.set_cons_succ]
      refine wpAnyH_take (i := 2) (v := .int .i64 (N : Int)) rfl (by kernel_rfl) (by kernel_rfl) (by kernel_rfl) (fun _ _ _ h => h) (Or.inl ⟨by kernel_rfl, ?_⟩) hHeld ?_
      · intro w' hSw
        first | (go_simp; done) | (go_simp; with_reducible rfl) | (go_simp; rw [IntKind.wrap_i64]; omega) | (go_simp; omega)
      simp only [Act.put, List.setIfInBounds_toArray, List.set_cons_zero, List.set_cons_succ]
      refine wpAnyH_take (i := 3) (v := .int .i64 (m : Int)) rfl (by kernel_rfl) (by kernel_rfl) (by kernel_rfl) (fun _ _ _ h => h) (Or.inl ⟨by kernel_rfl, ?_⟩) hHeld ?_
      · intro w' hSw
        first | (go_simp; done) | (go_simp; with_reducible rfl) | (go_simp; rw [IntKind.wrap_i64]; omega) | (go_simp; omega)
      simp only [Act.put, List.setIfInBounds_toArray, List.set_cons_zero, List.set_cons_succ]
      refine wpAnyH_take (i := 4) (v := .slice (some ⟨g, 0, none⟩) m cap) rfl (by kernel_rfl) (by kernel_rfl) (by kernel_rfl) (fun _ _ _ h => h) (Or.inl ⟨by kernel_rfl, ?_⟩) hHeld ?_
      · intro w' hSw
        first | (go_simp; done) | (go_simp; with_reducible rfl) | (go_simp; rw [IntKind.wrap_i64]; omega) | (go_simp; omega)
      simp only [Act.put, List.setIfInBounds_toArray, List.set_cons_zero, List.set_cons_succ]
      refine wpAnyH_take (i := 6) (v := .slice (some ⟨g, 0, none⟩) N cap) rfl (by kernel_rfl) (by kernel_rfl) (by kernel_rfl) (fun _ _ _ h => h) (Or.inl ⟨by kernel_rfl, ?_⟩) hHeld ?_
      · intro w' hSw
        first | (go_simp; done) | (go_simp; with_reducible rfl) | (go_simp; rw [IntKind.wrap_i64]; omega) | (go_simp; omega)
      simp only [Act.put, List.setIfInBounds_toArray, List.set_cons_zero, List.set_cons_succ]
      refine wpAnyH_take (i := 7) (v := .int .i64 (N : Int)) rfl (by kernel_rfl) (by kernel_rfl) (by kernel_rfl) (fun _ _ _ h => h) (Or.inl ⟨by kernel_rfl, ?_⟩) hHeld ?_
      · intro w' hSw
        first | (go_simp; done) | (go_simp; with_reducible rfl) | (go_simp; rw [IntKind.wrap_i64]; omega) | (go_simp; omega)
      simp only [Act.put, List.setIfInBounds_toArray, List.set_cons_zero, List.set_cons_succ]
      refine wpAnyH_take (i := 8) (v := .int .i64 (m2 : Int)) rfl (by kernel_rfl) (by kernel_rfl) (by kernel_rfl) (fun _ _ _ h => h) (Or.inl ⟨by kernel_rfl, ?_⟩) hHeld ?_
      · intro w' hSw
        first | (go_simp; done) | (go_simp; with_reducible rfl) | (go_simp; rw [IntKind.wrap_i64]; omega) | (go_simp; omega)
      simp only [Act.put, List.setIfInBounds_toArray, List.set_cons_zero, List.set_cons_succ]
      refine wpAnyH_take (i := 9) (v := .pointer (some ⟨g, m2, none⟩)) rfl (by kernel_rfl) (by kernel_rfl) (by kernel_rfl) (fun _ _ _ h => h) (Or.inl ⟨by kernel_rfl, ?_⟩) hHeld ?_
      · intro w' hSw
        first | (go_simp; done) | (go_simp; with_reducible rfl) | (go_simp; rw [IntKind.wrap_i64]; omega) | (go_simp; omega)
      simp only [Act.put, List.setIfInBounds_toArray, List.set_cons_zero, List.set_cons_succ]
      refine wpAnyH_take (i := 10) (v := .int .i64 a) rfl (by kernel_rfl) (by kernel_rfl) (by kernel_rfl) (fun _ _ _ h => h) (Or.inl ⟨by kernel_rfl, ?_⟩) hHeld ?_
      · intro w' hSw
        first | (go_simp; done) | (go_simp; with_reducible rfl) | (go_simp; rw [IntKind.wrap_i64]; omega) | (go_simp; omega)
      simp only [Act.put, List.setIfInBounds_toArray, List.set_cons_zero, List.set_cons_succ]
      obtain ⟨v0, hv0⟩ : ∃ z, z = wd.drew := ⟨_, rfl⟩
      rw [← hv0] at hHeld ⊢
      have bv0 : Below wd.heap.size wd v0 := by rw [hv0]; exact Below.drew (Below.refl _ _)
      clear hv0
      have HB9 : Hid (Below wd.heap.size wd v0) := bv0
      clear bv0
      refine wpAnyH_ready (rs := [0, 11]) (by kernel_rfl) (by simp) ?_
      refine (AllReadyH.cons rfl (fun KK hK => ?_) (AllReadyH.cons rfl (fun KK hK => ?_) AllReadyH.nil))
      · go_simp
        obtain ⟨v0_1, hv_⟩ : ∃ z, z = v0.alloc (.cells #[] 2) := ⟨_, rfl⟩
        rw [← hv_]
        obtain ⟨la, hla⟩ : ∃ z, z = v0.heap.size := ⟨_, rfl⟩
        have bw_ : Below v0.heap.size v0 v0_1 := by rw [hv_]; exact below0 _ _
        have HLA : Hid (v0_1.ownsRow wd.heap.size 2 1 (.slice (some ⟨la, 0, none⟩) 0 0) 0 []) := by show World.ownsRow _ _ _ _ _ _ _; rw [hv_, hla]; simpa using World.ownsRow_lit (base := wd.heap.size) (size := 1) (e := 2) v0 #[] 0 HB9.out.size (by simp [maxLen]) (by simp)
        replace HB9 : Hid (Below wd.heap.size wd v0_1) := HB9.out.trans (bw_.mono HB9.out.size)
        try rw [← hla]
        clear hv_ hla bw_
        refine hK.out _ _ ((HB9.out.cell (p := ⟨g, m2, none⟩) hgd).trans c2) (fun hHeld => ?_)
        clear hK KK
        refine wpAnyH_ready (rs := [5, 11]) (by kernel_rfl) (by simp) ?_
        refine (AllReadyH.cons rfl (fun KK hK => ?_) (AllReadyH.cons rfl (fun KK hK => ?_) AllReadyH.nil))
        · refine wp_append_own _ (.tmp 75) (.tmp 79) 22 (by rfl) wd.heap.size 2 i1 (.int .i64 0) 1 8 Try.underlying22 HI1.out.1 HI1.out.2.1 HI1.out.2.2.1 HI1.out.2.2.2 rfl (by decide) _ 0 [] (by rfl) HLA.out ⟨g, 0, none⟩ m cap (vals (nthI S) m) (by rfl) (by rw [vals_length, Nat.mul_one]) (news_row (fun j hj => (HB9.out.cell (p := ⟨g, j, none⟩) hgd).trans (HCS.out j (by have := HM.out; omega)))) (vals_one _ _) (by unfold maxLen; omega) (by omega) HB9.out.size ?_
          intro vA v0_2 hown9 hgrow9 _
          have HVA : Hid (v0_2.ownsRow wd.heap.size 2 1 vA (S.take m).length (cellsOf (S.take m))) := by show World.ownsRow _ _ _ _ _ _ _; rw [HL8.out.1, ← cells_take S m (by have := HM.out; omega)]; simpa using hown9
          replace HB9 : Hid (Below wd.heap.size wd v0_2) := HB9.out.trans (grown_below hgrow9 HB9.out.size (own_block HLA.out))
          replace HLA := HVA
          clear hown9 hgrow9 HVA
          go_simp
          refine hK.out _ _ ((HB9.out.cell (p := ⟨g, m2, none⟩) hgd).trans c2) (fun hHeld => ?_)
          clear hK KK
          refine wpAnyH_ready (rs := [11]) (by kernel_rfl) (by simp) ?_
          refine (AllReadyH.cons rfl (fun KK hK => ?_) AllReadyH.nil)
          go_simp
          obtain ⟨v0_3, hv_⟩ : ∃ z, z = v0_2.alloc (.cells #[.int .i64 a] 2) := ⟨_, rfl⟩
          rw [← hv_]
          obtain ⟨lb, hlb⟩ : ∃ z, z = v0_2.heap.size := ⟨_, rfl⟩
          have bw_ : Below v0_2.heap.size v0_2 v0_3 := by rw [hv_]; exact below0 _ _
          have HLB : Hid (v0_3.cell? ⟨lb, 0, none⟩ = some (.int .i64 a) ∧ lb < v0_3.heap.size) := ⟨by rw [hv_, hlb]; simp [go_sem], by rw [hv_, hlb]; simp⟩
          replace HLA : Hid (v0_3.ownsRow wd.heap.size 2 1 vA (S.take m).length (cellsOf (S.take m))) := own_below HLA.out bw_
          replace HB9 : Hid (Below wd.heap.size wd v0_3) := HB9.out.trans (bw_.mono HB9.out.size)
          try rw [← hlb]
          clear hv_ hlb bw_
          refine hK.out _ _ ((HB9.out.cell (p := ⟨g, m2, none⟩) hgd).trans c2) (fun hHeld => ?_)
          clear hK KK
          refine wpAnyH_ready (rs := [12]) (by kernel_rfl) (by simp) ?_
          refine (AllReadyH.cons rfl (fun KK hK => ?_) AllReadyH.nil)
          refine wp_append_own _ (.tmp 80) (.tmp 86) 22 (by rfl) wd.heap.size 2 i1 (.int .i64 0) 1 8 Try.underlying22 HI1.out.1 HI1.out.2.1 HI1.out.2.2.1 HI1.out.2.2.2 rfl (by decide) vA (S.take m).length (cellsOf (S.take m)) (by rfl) HLA.out ⟨lb, 0, none⟩ 1 1 [.int .i64 a] (by rfl) rfl (news_one HLB.out.1) (by intro u hu; simp at hu; subst hu; rfl) (by have := HL8.out.1; unfold maxLen; omega) (by have := HL8.out.1; omega) HB9.out.size ?_
          intro vB v0_4 hown9 hgrow9 _
          have HVB : Hid (v0_4.ownsRow H 2 1 vB (S.take m ++ [a]).length (cellsOf (S.take m ++ [a]))) := by show World.ownsRow _ _ _ _ _ _ _; rw [cellsOf_snoc, List.length_append]; exact own_low hown9 zh1
          replace HB9 : Hid (Below wd.heap.size wd v0_4) := HB9.out.trans (grown_below hgrow9 HB9.out.size (own_block HLA.out))
          clear hown9 hgrow9 HLA HLB
          go_simp
          refine hK.out _ _ ((HB9.out.cell (p := ⟨g, m2, none⟩) hgd).trans c2) (fun hHeld => ?_)
          clear hK KK
          refine wpAnyH_ready (rs := [13]) (by kernel_rfl) (by simp) ?_
          refine AllReadyH.cons rfl (fun KK hK => ?_) AllReadyH.nil
          go_simp
          refine hK.out _ _ hHeld (fun hHeld => ?_)
          clear hK KK
          refine wpAnyH_done (by kernel_rfl) ?_ _
          clear hHeld
          have HW8 : Hid (RnW w H (some ⟨tg, tp, none⟩) T v0_4 vB (.slice (some ⟨g1, 0, none⟩) (O.length + 1) cap1) (S.take m ++ [a]) (O ++ [(apt b d, 2)])) := HW1.out.fresh HB9.out HVB.out
          obtain ⟨sB, cB, eB⟩ := rnw_val HW8.out
          subst eB
          clear HB9 HVB HW1 c2 HCS
          go_wp2
          go_roundw
          case rel => exact ⟨S.take m ++ [a], O ++ [(apt b d, 2)], HW8, HWY2, HBs2, by have := HL8.out; rw [List.length_append]; simp only [List.length_singleton]; omega⟩
          case measure => have := HL8.out; simp only [lenR, List.length_append, List.length_singleton]; omega
        · go_simp
          obtain ⟨v0_5, hv_⟩ : ∃ z, z = v0_1.alloc (.cells #[.int .i64 a] 2) := ⟨_, rfl⟩
          rw [← hv_]
          obtain ⟨lb, hlb⟩ : ∃ z, z = v0_1.heap.size := ⟨_, rfl⟩
          have bw_ : Below v0_1.heap.size v0_1 v0_5 := by rw [hv_]; exact below0 _ _
          have HLB : Hid (v0_5.cell? ⟨lb, 0, none⟩ = some (.int .i64 a) ∧ lb < v0_5.heap.size) := ⟨by rw [hv_, hlb]; simp [go_sem], by rw [hv_, hlb]; simp⟩
          have hne : lb ≠ la := by have := (HLA.out.lt la rfl).2; omega
          replace HLA : Hid (v0_5.ownsRow wd.heap.size 2 1 (.slice (some ⟨la, 0, none⟩) 0 0) 0 []) := own_below HLA.out bw_
          replace HB9 : Hid (Below wd.heap.size wd v0_5) := HB9.out.trans (bw_.mono HB9.out.size)
          try rw [← hlb]
          clear hv_ hlb bw_
          refine hK.out _ _ ((HB9.out.cell (p := ⟨g, m2, none⟩) hgd).trans c2) (fun hHeld => ?_)
          clear hK KK
          refine wpAnyH_ready (rs := [5]) (by kernel_rfl) (by simp) ?_
          refine (AllReadyH.cons rfl (fun KK hK => ?_) AllReadyH.nil)
          refine wp_append_own _ (.tmp 75) (.tmp 79) 22 (by rfl) wd.heap.size 2 i1 (.int .i64 0) 1 8 Try.underlying22 HI1.out.1 HI1.out.2.1 HI1.out.2.2.1 HI1.out.2.2.2 rfl (by decide) _ 0 [] (by rfl) HLA.out ⟨g, 0, none⟩ m cap (vals (nthI S) m) (by rfl) (by rw [vals_length, Nat.mul_one]) (news_row (fun j hj => (HB9.out.cell (p := ⟨g, j, none⟩) hgd).trans (HCS.out j (by have := HM.out; omega)))) (vals_one _ _) (by unfold maxLen; omega) (by omega) HB9.out.size ?_
          intro vA v0_6 hown9 hgrow9 _
          have HVA : Hid (v0_6.ownsRow wd.heap.size 2 1 vA (S.take m).length (cellsOf (S.take m))) := by show World.ownsRow _ _ _ _ _ _ _; rw [HL8.out.1, ← cells_take S m (by have := HM.out; omega)]; simpa using hown9
          replace HLB : Hid (v0_6.cell? ⟨lb, 0, none⟩ = some (.int .i64 a) ∧ lb < v0_6.heap.size) := ⟨(World.cell?_of_block (w := v0_5) (a := ⟨lb, 0, none⟩) (hgrow9.block lb HLB.out.2 (fun e => hne (Option.some.inj e)))).trans HLB.out.1, Nat.lt_of_lt_of_le HLB.out.2 hgrow9.size⟩
          replace HB9 : Hid (Below wd.heap.size wd v0_6) := HB9.out.trans (grown_below hgrow9 HB9.out.size (own_block HLA.out))
          replace HLA := HVA
          clear hown9 hgrow9 HVA
          go_simp
          refine hK.out _ _ ((HB9.out.cell (p := ⟨g, m2, none⟩) hgd).trans c2) (fun hHeld => ?_)
          clear hK KK
          refine wpAnyH_ready (rs := [12]) (by kernel_rfl) (by simp) ?_
          refine (AllReadyH.cons rfl (fun KK hK => ?_) AllReadyH.nil)
          refine wp_append_own _ (.tmp 80) (.tmp 86) 22 (by rfl) wd.heap.size 2 i1 (.int .i64 0) 1 8 Try.underlying22 HI1.out.1 HI1.out.2.1 HI1.out.2.2.1 HI1.out.2.2.2 rfl (by decide) vA (S.take m).length (cellsOf (S.take m)) (by rfl) HLA.out ⟨lb, 0, none⟩ 1 1 [.int .i64 a] (by rfl) rfl (news_one HLB.out.1) (by intro u hu; simp at hu; subst hu; rfl) (by have := HL8.out.1; unfold maxLen; omega) (by have := HL8.out.1; omega) HB9.out.size ?_
          intro vB v0_7 hown9 hgrow9 _
          have HVB : Hid (v0_7.ownsRow H 2 1 vB (S.take m ++ [a]).length (cellsOf (S.take m ++ [a]))) := by show World.ownsRow _ _ _ _ _ _ _; rw [cellsOf_snoc, List.length_append]; exact own_low hown9 zh1
          replace HB9 : Hid (Below wd.heap.size wd v0_7) := HB9.out.trans (grown_below hgrow9 HB9.out.size (own_block HLA.out))
          clear hown9 hgrow9 HLA HLB
          go_simp
          refine hK.out _ _ ((HB9.out.cell (p := ⟨g, m2, none⟩) hgd).trans c2) (fun hHeld => ?_)
          clear hK KK
          refine wpAnyH_ready (rs := [13]) (by kernel_rfl) (by simp) ?_
          refine AllReadyH.cons rfl (fun KK hK => ?_) AllReadyH.nil
          go_simp
          refine hK.out _ _ hHeld (fun hHeld => ?_)
          clear hK KK
          refine wpAnyH_done (by kernel_rfl) ?_ _
          clear hHeld
          have HW8 : Hid (RnW w H (some ⟨tg, tp, none⟩) T v0_7 vB (.slice (some ⟨g1, 0, none⟩) (O.length + 1) cap1) (S.take m ++ [a]) (O ++ [(apt b d, 2)])) := HW1.out.fresh HB9.out HVB.out
          obtain ⟨sB, cB, eB⟩ := rnw_val HW8.out
          subst eB
          clear HB9 HVB HW1 c2 HCS
          go_wp2
          go_roundw
          case rel => exact ⟨S.take m ++ [a], O ++ [(apt b d, 2)], HW8, HWY2, HBs2, by have := HL8.out; rw [List.length_append]; simp only [List.length_singleton]; omega⟩
          case measure => have := HL8.out; simp only [lenR, List.length_append, List.length_singleton]; omega
      · go_simp
        obtain ⟨v0_8, hv_⟩ : ∃ z, z = v0.alloc (.cells #[.int .i64 a] 2) := ⟨_, rfl⟩
        rw [← hv_]
        obtain ⟨lb, hlb⟩ : ∃ z, z = v0.heap.size := ⟨_, rfl⟩
        have bw_ : Below v0.heap.size v0 v0_8 := by rw [hv_]; exact below0 _ _
        have HLB : Hid (v0_8.cell? ⟨lb, 0, none⟩ = some (.int .i64 a) ∧ lb < v0_8.heap.size) := ⟨by rw [hv_, hlb]; simp [go_sem], by rw [hv_, hlb]; simp⟩
        replace HB9 : Hid (Below wd.heap.size wd v0_8) := HB9.out.trans (bw_.mono HB9.out.size)
        try rw [← hlb]
        clear hv_ hlb bw_
        refine hK.out _ _ ((HB9.out.cell (p := ⟨g, m2, none⟩) hgd).trans c2) (fun hHeld => ?_)
        clear hK KK
        refine wpAnyH_ready (rs := [0]) (by kernel_rfl) (by simp) ?_
        refine (AllReadyH.cons rfl (fun KK hK => ?_) AllReadyH.nil)
        go_simp
        obtain ⟨v0_9, hv_⟩ : ∃ z, z = v0_8.alloc (.cells #[] 2) := ⟨_, rfl⟩
        rw [← hv_]
        obtain ⟨la, hla⟩ : ∃ z, z = v0_8.heap.size := ⟨_, rfl⟩
        have bw_ : Below v0_8.heap.size v0_8 v0_9 := by rw [hv_]; exact below0 _ _
        have HLA : Hid (v0_9.ownsRow wd.heap.size 2 1 (.slice (some ⟨la, 0, none⟩) 0 0) 0 []) := by show World.ownsRow _ _ _ _ _ _ _; rw [hv_, hla]; simpa using World.ownsRow_lit (base := wd.heap.size) (size := 1) (e := 2) v0_8 #[] 0 HB9.out.size (by simp [maxLen]) (by simp)
        have hne : lb ≠ la := by have := HLB.out.2; omega
        replace HLB : Hid (v0_9.cell? ⟨lb, 0, none⟩ = some (.int .i64 a) ∧ lb < v0_9.heap.size) := ⟨(bw_.cell (p := ⟨lb, 0, none⟩) HLB.out.2).trans HLB.out.1, Nat.lt_of_lt_of_le HLB.out.2 bw_.size⟩
        replace HB9 : Hid (Below wd.heap.size wd v0_9) := HB9.out.trans (bw_.mono HB9.out.size)
        try rw [← hla]
        clear hv_ hla bw_
        refine hK.out _ _ ((HB9.out.cell (p := ⟨g, m2, none⟩) hgd).trans c2) (fun hHeld => ?_)
        clear hK KK
        refine wpAnyH_ready (rs := [5]) (by kernel_rfl) (by simp) ?_
        refine (AllReadyH.cons rfl (fun KK hK => ?_) AllReadyH.nil)
        refine wp_append_own _ (.tmp 75) (.tmp 79) 22 (by rfl) wd.heap.size 2 i1 (.int .i64 0) 1 8 Try.underlying22 HI1.out.1 HI1.out.2.1 HI1.out.2.2.1 HI1.out.2.2.2 rfl (by decide) _ 0 [] (by rfl) HLA.out ⟨g, 0, none⟩ m cap (vals (nthI S) m) (by rfl) (by rw [vals_length, Nat.mul_one]) (news_row (fun j hj => (HB9.out.cell (p := ⟨g, j, none⟩) hgd).trans (HCS.out j (by have := HM.out; omega)))) (vals_one _ _) (by unfold maxLen; omega) (by omega) HB9.out.size ?_
        intro vA v0_10 hown9 hgrow9 _
        have HVA : Hid (v0_10.ownsRow wd.heap.size 2 1 vA (S.take m).length (cellsOf (S.take m))) := by show World.ownsRow _ _ _ _ _ _ _; rw [HL8.out.1, ← cells_take S m (by have := HM.out; omega)]; simpa using hown9
        replace HLB : Hid (v0_10.cell? ⟨lb, 0, none⟩ = some (.int .i64 a) ∧ lb < v0_10.heap.size) := ⟨(World.cell?_of_block (w := v0_9) (a := ⟨lb, 0, none⟩) (hgrow9.block lb HLB.out.2 (fun e => hne (Option.some.inj e)))).trans HLB.out.1, Nat.lt_of_lt_of_le HLB.out.2 hgrow9.size⟩
        replace HB9 : Hid (Below wd.heap.size wd v0_10) := HB9.out.trans (grown_below hgrow9 HB9.out.size (own_block HLA.out))
        replace HLA := HVA
        clear hown9 hgrow9 HVA
        go_simp
        refine hK.out _ _ ((HB9.out.cell (p := ⟨g, m2, none⟩) hgd).trans c2) (fun hHeld => ?_)
        clear hK KK
        refine wpAnyH_ready (rs := [12]) (by kernel_rfl) (by simp) ?_
        refine (AllReadyH.cons rfl (fun KK hK => ?_) AllReadyH.nil)
        refine wp_append_own _ (.tmp 80) (.tmp 86) 22 (by rfl) wd.heap.size 2 i1 (.int .i64 0) 1 8 Try.underlying22 HI1.out.1 HI1.out.2.1 HI1.out.2.2.1 HI1.out.2.2.2 rfl (by decide) vA (S.take m).length (cellsOf (S.take m)) (by rfl) HLA.out ⟨lb, 0, none⟩ 1 1 [.int .i64 a] (by rfl) rfl (news_one HLB.out.1) (by intro u hu; simp at hu; subst hu; rfl) (by have := HL8.out.1; unfold maxLen; omega) (by have := HL8.out.1; omega) HB9.out.size ?_
        intro vB v0_11 hown9 hgrow9 _
        have HVB : Hid (v0_11.ownsRow H 2 1 vB (S.take m ++ [a]).length (cellsOf (S.take m ++ [a]))) := by show World.ownsRow _ _ _ _ _ _ _; rw [cellsOf_snoc, List.length_append]; exact own_low hown9 zh1
        replace HB9 : Hid (Below wd.heap.size wd v0_11) := HB9.out.trans (grown_below hgrow9 HB9.out.size (own_block HLA.out))
        clear hown9 hgrow9 HLA HLB
        go_simp
        refine hK.out _ _ ((HB9.out.cell (p := ⟨g, m2, none⟩) hgd).trans c2) (fun hHeld => ?_)
        clear hK KK
        refine wpAnyH_ready (rs := [13]) (by kernel_rfl) (by simp) ?_
        refine AllReadyH.cons rfl (fun KK hK => ?_) AllReadyH.nil
        go_simp
        refine hK.out _ _ hHeld (fun hHeld => ?_)
        clear hK KK
        refine wpAnyH_done (by kernel_rfl) ?_ _
        clear hHeld
        have HW8 : Hid (RnW w H (some ⟨tg, tp, none⟩) T v0_11 vB (.slice (some ⟨g1, 0, none⟩) (O.length + 1) cap1) (S.take m ++ [a]) (O ++ [(apt b d, 2)])) := HW1.out.fresh HB9.out HVB.out
        obtain ⟨sB, cB, eB⟩ := rnw_val HW8.out
        subst eB
        clear HB9 HVB HW1 c2 HCS
        go_wp2
        go_roundw
        case rel => exact ⟨S.take m ++ [a], O ++ [(apt b d, 2)], HW8, HWY2, HBs2, by have := HL8.out; rw [List.length_append]; simp only [List.length_singleton]; omega⟩
        case measure => have := HL8.out; simp only [lenR, List.length_append, List.length_singleton]; omega
end Go.Proofs.Ythengechoaodcaa
