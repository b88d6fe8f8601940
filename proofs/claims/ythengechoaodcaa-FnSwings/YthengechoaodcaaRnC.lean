/-
What is proved: what the program's stack gives up, and what is left of it.
-/
import Derived.Test.YthengechoaodcaaRnM
namespace Go.Proofs.Ythengechoaodcaa
set_option maxRecDepth 40000
open Go.ChangeShapes Go.WideShapes Go.ChangeAt Go.RowKit
set_option linter.unusedVariables false
set_option linter.unusedSimpArgs false

theorem fromTop_at (p B : Nat) (l : List Int) (D : Int) (d m : Nat) (w : World) (hD : D = (d : Int)) (hd : m + d + 1 = l.length) (hl : l.length ≤ 1000) (HL : Hid (LfA p B w l)) : Calls Try.prog 62 #[.pointer (some ⟨p, 0, none⟩), .int .i64 D] w fun e w' => e = .returned (.int .i64 (nthI l m)) ∧ Below w.heap.size w w' := by
  subst hD
  refine (fromTop_any p B l d m w hd hl HL).mono ?_
  rintro e w' ⟨h, q, rfl⟩
  exact ⟨h, bDrewN (Below.refl _ _) _⟩
theorem dropTop_at (p B : Nat) (l : List Int) (D : Int) (d m : Nat) (w : World) (hD : D = (d : Int)) (hd : m + d = l.length) (h0 : 0 < l.length) (hl : l.length ≤ 1000) (HL : Hid (LfA p B w l)) : Calls Try.prog 64 #[.pointer (some ⟨p, 0, none⟩), .int .i64 D] w fun e w' => e = .returned (.tuple #[]) ∧ LfA p B w' (l.take m) ∧ Fr p B w w' := by
  subst hD
  exact dropTop_any p B l d m w hd h0 hl HL
theorem Fr.list {p B : Nat} {w w1 w2 : World} {v : Value} {n : Nat} {xs : List Value} (h : Fr p B w w1) (ho : w1.ownsRow w.heap.size 36 2 v n xs) (hg : w1.grownBy w2 v.ownBlock) : Fr p B w w2 := by
  obtain ⟨h1, h2, h3, h4, h5⟩ := h
  refine ⟨hg.os.trans h1, hg.tape.trans h2, hg.output.trans h3, Nat.le_trans h4 hg.size, fun k hk hp => ?_⟩
  have e : w2.heap[k]? = w1.heap[k]? := hg.block k (by omega) (fun q => by have := own_block ho k q.symm; omega)
  rcases h5 k hk hp with q | q
  · exact .inl (e.trans q)
  · exact .inr q
def ClP (p B : Nat) (w : World) (r : List Int × List (Int × Int)) (e : Ending) (w' : World) : Prop := ∃ v, e = .returned v ∧ w'.ownsRow w.heap.size 36 2 v r.2.length (swC r.2) ∧ LfA p B w' r.1 ∧ Fr p B w w'
theorem swing_cells {W : World} {b : Nat} {x y : Value} (h : W.heap[b]? = some (.cells #[x, y] 36 (0, 0))) : W.cell? ⟨b, 0, none⟩ = some x ∧ W.cell? ⟨b, 1, none⟩ = some y := ⟨by simp [World.cell?, h], by simp [World.cell?, h]⟩
theorem swing_two (W : World) (c7 c8 : Array Value) : ((W.alloc (.cells c7 36)).alloc (.cells c8 36)).heap[W.heap.size + 1]? = some (.cells c8 36 (0, 0)) := by
  have := heap_alloc_new (W.alloc (.cells c7 36)) (.cells c8 36)
  simpa using this
theorem drop_one {l : List Int} (h : l.length = 3) : l.drop 1 = [nthI l 1, nthI l 2] := by
  match l, h with
  | [a, b, c], _ => rfl
theorem own_val {W : World} {base : Nat} {v : Value} {o : List (Int × Int)} (h : W.ownsRow base 36 2 v o.length (swC o)) : ∃ ss cs, v = .slice ss o.length cs := by
  rcases h.2 with ⟨e, q⟩ | ⟨g, cap, cur, e, _⟩
  · exact ⟨none, 0, by rw [e, q]⟩
  · exact ⟨_, cap, e⟩
set_option maxRecDepth 20000 in
set_option maxHeartbeats 8000000 in
theorem closedSwings_any (p B : Nat) (l : List Int) (w : World) (hl : l.length ≤ 401) (HB : Hid (Bd 100000 l)) (HL : Hid (LfA p B w l)) : Calls Try.prog 38 #[.pointer (some ⟨p, 0, none⟩)] w fun e w' => ClP p B w (rainIn l) e w' := by
  have hp : p < w.heap.size := Nat.lt_of_lt_of_le HL.out.1 HL.out.2.1
  go_enter Try.func38, Try.ntmps38
  go_wp2_with fail
  go_loopw [3] (fun vc wx => ∃ (l1 : List Int) (o1 : List (Int × Int)), Hid (LfA p B wx l1) ∧ Hid (wx.ownsRow w.heap.size 36 2 vc o1.length (swC o1)) ∧ Hid (Fr p B w wx) ∧ Hid (rainIn l = ((rainIn l1).1, o1 ++ (rainIn l1).2)) ∧ Hid (Bd 100000 l1) ∧ l1.length + o1.length ≤ 401) (fun vc _ => 500 - lenR vc)
  case atStart => exact ⟨l, [], HL, (show World.ownsRow _ _ _ _ _ 0 [] from World.ownsRow_nil w _ _ _), Fr.refl _ _ _, by show _ = _; simp, HB, by simpa using hl⟩
  case round =>
    clear HL HB
    obtain ⟨l1, o1, HL, HO, HF, HE, HBs, hlen⟩ := hrel
    rename World => wq
    go_wp2_with fail
    refine (stkSize_any p B l1 _ HL).mono ?_
    rintro e wq ⟨rfl, rfl⟩
    rename World => wq
    by_cases h3 : 3 ≤ l1.length
    case neg =>
      have h3i : ¬ (3 : Int) ≤ (l1.length : Int) := by omega
      have HE2 : Hid (rainIn l = (l1, o1)) := by show _ = _; rw [HE.out, rain_no (cut_small (by omega))]; simp
      go_wp2
      go_ret
      unfold ClP
      rw [HE2.out]
      exact ⟨u3, rfl, HO.out, HL.out, HF.out⟩
    obtain ⟨m, hm⟩ : ∃ m, l1.length = m + 3 := ⟨l1.length - 3, by omega⟩
    have HM : Hid (l1.length = m + 3) := hm
    have h3i : (3 : Int) ≤ (l1.length : Int) := by omega
    have ba := bd_nth (by decide) HBs.out (m + 2)
    have bb := bd_nth (by decide) HBs.out (m + 1)
    have bc := bd_nth (by decide) HBs.out m
    go_wp2_with fail
    refine (fromTop_at p B l1 0 0 (m + 2) _ rfl (by omega) (by omega) HL).mono ?_
    rintro e wa ⟨rfl, b1⟩
    replace HL : Hid (LfA p B wa l1) := HL.out.below b1
    go_wp2_with fail
    refine (fromTop_at p B l1 1 1 (m + 1) _ rfl (by omega) (by omega) HL).mono ?_
    rintro e wb ⟨rfl, b2⟩
    replace HL : Hid (LfA p B wb l1) := HL.out.below b2
    go_wp2_with fail
    refine (fromTop_at p B l1 2 2 m _ rfl (by omega) (by omega) HL).mono ?_
    rintro e wc ⟨rfl, b3⟩
    replace HL : Hid (LfA p B wc l1) := HL.out.below b3
    have HC1 := fun q => cut_stay (s := l1) hm q
    have HC2 := fun q z => cut_more (s := l1) hm z q
    have HC3 : m = 0 → ¬ apt (nthI l1 (m + 2)) (nthI l1 (m + 1)) < apt (nthI l1 (m + 1)) (nthI l1 m) → cutS l1 = some (l1.drop 1, (apt (nthI l1 (m + 1)) (nthI l1 m), 1)) := fun e q => by
      subst e
      rw [drop_one hm]
      exact cut_three hm q
    obtain ⟨a, ha⟩ : ∃ z, nthI l1 (m + 2) = z := ⟨_, rfl⟩
    obtain ⟨b, hb⟩ : ∃ z, nthI l1 (m + 1) = z := ⟨_, rfl⟩
    obtain ⟨d, hd⟩ : ∃ z, nthI l1 m = z := ⟨_, rfl⟩
    rw [ha, hb, hd] at HC1 HC2 HC3
    replace HC1 : Hid (apt a b < apt b d → cutS l1 = none) := HC1
    replace HC2 : Hid (¬ apt a b < apt b d → 0 < m → cutS l1 = some (l1.take m ++ [a], (apt b d, 2))) := HC2
    replace HC3 : Hid (m = 0 → ¬ apt a b < apt b d → cutS l1 = some (l1.drop 1, (apt b d, 1))) := HC3
    rw [ha] at ba ⊢
    rw [hb] at bb ⊢
    rw [hd] at bc ⊢
    clear ha hb hd
    go_wp2_with fail
    refine (swingOf_any 1 a b _ ba bb).mono ?_
    rintro e wd ⟨rfl, b4⟩
    go_wp2_with fail
    refine (swingOf_any 1 b d _ bb bc).mono ?_
    rintro e we ⟨rfl, b5⟩
    have s1 := b1.size
    have s2 := b2.size
    have s3 := b3.size
    have s4 := b4.size
    have BE : Below wq.heap.size wq we := (b1.trans (b2.mono s1)).trans (((b3.trans (b4.mono s3)).trans (b5.mono (Nat.le_trans s3 s4))).mono (Nat.le_trans s1 s2))
    replace HL : Hid (LfA p B we l1) := HL.out.below (b4.trans (b5.mono s4))
    replace HO : Hid (we.ownsRow w.heap.size 36 2 u3 o1.length (swC o1)) := own_below HO.out BE
    replace HF : Hid (Fr p B w we) := HF.out.trans (Fr.of BE)
    have zw : w.heap.size ≤ we.heap.size := HF.out.2.2.2.1
    clear b1 b2 b3 b4 b5 s1 s2 s3 s4 BE ba bb bc
    go_upto_region 5 with fail
    obtain ⟨wf, hwf⟩ : ∃ z, z = (we.alloc (.cells #[.int .i64 (apt a b), .int .i64 1] 36)).alloc (.cells #[.int .i64 (apt b d), .int .i64 1] 36) := ⟨_, rfl⟩
    rw [← hwf]
    have b6 : Below we.heap.size we wf := by rw [hwf]; exact (by repeat (first | with_reducible exact Below.refl _ _ | with_reducible refine Below.setCell ?_ (by first | omega | (simp; done) | (simp; omega)) _ | with_reducible refine bDrewN ?_ _ | with_reducible refine Below.drew ?_ | with_reducible refine Below.alloc ?_ (by first | omega | (simp; done) | (simp; omega)) _))
    have h8 : wf.heap[we.heap.size + 1]? = some (.cells #[.int .i64 (apt b d), .int .i64 1] 36 (0, 0)) := by rw [hwf]; exact swing_two we _ _
    have c70 : wf.cell? ⟨we.heap.size, 0, none⟩ = some (.int .i64 (apt a b)) := by rw [hwf]; simp [go_sem]
    obtain ⟨c80, c81⟩ := swing_cells h8
    have H8 : Hid (wf.heap[we.heap.size + 1]? = some (.cells #[.int .i64 (apt b d), .int .i64 1] 36 (0, 0))) := h8
    obtain ⟨b8, hb8⟩ : ∃ z, z = we.heap.size + 1 := ⟨_, rfl⟩
    obtain ⟨b7, hb7⟩ : ∃ z, z = we.heap.size := ⟨_, rfl⟩
    have n8 : we.heap.size ≤ b8 := by omega
    have z8 : b8 < wf.heap.size := by rw [hb8]; exact (Array.getElem?_eq_some_iff.1 h8).1
    have f8 : ∀ o, wf.frozen? ⟨b8, o, none⟩ = false := fun o => by rw [hb8]; simp [World.frozen?, h8]
    rw [← hb8] at H8 c80 c81
    rw [← hb7] at c70
    try rw [← hb8]
    try rw [← hb7]
    have HLf : Hid (LfA p B wf l1) := HL.out.below b6
    have HOf : Hid (wf.ownsRow w.heap.size 36 2 u3 o1.length (swC o1)) := own_below HO.out b6
    have HFf : Hid (Fr p B w wf) := HF.out.trans (Fr.of b6)
    clear hwf h8 hb8 hb7
    by_cases hap : apt a b < apt b d
    case pos =>
      have HE2 : Hid (rainIn l = (l1, o1)) := by show _ = _; rw [HE.out, rain_no (HC1.out hap)]; simp
      clear H8
      go_wp2
      go_ret
      unfold ClP
      rw [HE2.out]
      exact ⟨u3, rfl, HOf.out, HLf.out, HFf.out⟩
    go_wp2_with fail
    refine (stkSize_any p B l1 _ HLf).mono ?_
    rintro e wf ⟨rfl, rfl⟩
    rename World => wf
    by_cases h0 : m = 0
    case pos =>
      have HCC := HC3.out h0 (by omega)
      have HE2 : Hid (rainIn l = ((rainIn (l1.drop 1)).1, o1 ++ [(apt b d, 1)] ++ (rainIn (l1.drop 1)).2)) := by show _ = _; rw [HE.out, rain_yes HCC]; simp
      have HB2 : Hid (Bd 100000 (l1.drop 1)) := bd_cut (by decide) HBs.out HCC
      have hlen2 : (l1.drop 1).length + (o1 ++ [(apt b d, 1)]).length ≤ 401 := by rw [List.length_drop, List.length_append]; simp only [List.length_singleton]; omega
      have q3 : ((l1.length : Int) == 3) = true := by have := HM.out; rw [h0] at this; rw [this]; rfl
      have l2 : 2 ≤ l1.length := by omega
      clear HC1 HC2 HC3 HCC h0 hm HM h3 h3i
      go_wp2_with fail
      refine (dropLowest_any p B l1 _ l2 (by omega) HLf).mono ?_
      rintro e wg ⟨rfl, HL7, HF7⟩
      replace HL7 : Hid (LfA p B wg (l1.drop 1)) := HL7
      have h8 := HF7.swing H8.out (show b8 ≠ p from (by omega))
      have HO7 : Hid (wg.ownsRow w.heap.size 36 2 u3 o1.length (swC o1)) := HF7.own HOf.out hp
      replace HF7 : Hid (Fr p B w wg) := HFf.out.trans HF7
      obtain ⟨d80, d81⟩ := swing_cells h8
      have zg : w.heap.size ≤ wg.heap.size := HF7.out.2.2.2.1
      have o4 : o1.length ≤ 1000 := by omega
      obtain ⟨so, co, rfl⟩ := own_val HO7.out
      clear h8 c80 c81 c70 H8 HLf HOf HFf f8 b6 n8 z8
      go_upto_region 2 with (at_builtin; refine list_Swing w.heap.size _ o1.length (swC o1) (.tmp 40) (.tmp 42) (by rfl) (by rfl) (by rfl) (by rfl) HO7.out (by omega) (by omega) ?_; intro g1 cap1 wh hown1 hgrow1 hlt1 hat1)
      have HL9 : Hid (LfA p B wh (l1.drop 1)) := HL7.out.grown HO7.out hp hgrow1
      have HO9 : Hid (wh.ownsRow w.heap.size 36 2 (.slice (some ⟨g1, 0, none⟩) (o1.length + 1) cap1) (o1 ++ [(apt b d, 1)]).length (swC (o1 ++ [(apt b d, 1)]))) := by show World.ownsRow _ _ _ _ _ _ _; rw [swC_app, List.length_append]; exact hown1
      have HF9 : Hid (Fr p B w wh) := Fr.list HF7.out HO7.out hgrow1
      go_roundw
      case rel => exact ⟨l1.drop 1, o1 ++ [(apt b d, 1)], HL9, HO9, HF9, HE2, HB2, hlen2⟩
      case measure => simp [lenR]; omega
    have HCC := HC2.out (by omega) (by omega)
    have HE2 : Hid (rainIn l = ((rainIn (l1.take m ++ [a])).1, o1 ++ [(apt b d, 2)] ++ (rainIn (l1.take m ++ [a])).2)) := by show _ = _; rw [HE.out, rain_yes HCC]; simp
    have HB2 : Hid (Bd 100000 (l1.take m ++ [a])) := bd_cut (by decide) HBs.out HCC
    have hlt : (l1.take m).length = m := by rw [List.length_take]; omega
    have hlen2 : (l1.take m ++ [a]).length + (o1 ++ [(apt b d, 2)]).length ≤ 401 := by rw [List.length_append, List.length_append, hlt]; simp only [List.length_singleton]; omega
    have q3 : ((l1.length : Int) == 3) = false := by have := HM.out; simp; omega
    have f81 := f8 1
    clear HC1 HC2 HC3 HCC
    go_upto_region 9 with fail
    obtain ⟨wi, hwi⟩ : ∃ z, z = wf.setCell ⟨b8, 1, none⟩ (.int .i64 2) := ⟨_, rfl⟩
    rw [← hwi]
    have bs : Beside b8 wf wi := by rw [hwi]; exact Beside.setCell b8 wf 1 _
    have bi : Below we.heap.size we wi := b6.trans (bs.below n8 b6.size)
    have h8 : wi.heap[b8]? = some (.cells #[.int .i64 (apt b d), .int .i64 2] 36 (0, 0)) := by rw [hwi]; exact (heap_setCell_same _ b8 1 _ 36 (.int .i64 2) H8.out).trans rfl
    replace HLf : Hid (LfA p B wi l1) := HL.out.below bi
    replace HOf : Hid (wi.ownsRow w.heap.size 36 2 u3 o1.length (swC o1)) := own_below HO.out bi
    replace HFf : Hid (Fr p B w wi) := HF.out.trans (Fr.of bi)
    replace H8 : Hid (wi.heap[b8]? = some (.cells #[.int .i64 (apt b d), .int .i64 2] 36 (0, 0))) := h8
    clear hwi bs bi h8 c80 c81 c70 f81 f8 b6 HL HO HF
    go_wp2_with fail
    refine (dropTop_at p B l1 3 3 m _ rfl (by omega) (by omega) (by omega) HLf).mono ?_
    rintro e wg ⟨rfl, HL7, HF7⟩
    replace HL7 : Hid (LfA p B wg (l1.take m)) := HL7
    replace H8 : Hid (wg.heap[b8]? = some (.cells #[.int .i64 (apt b d), .int .i64 2] 36 (0, 0))) := HF7.swing H8.out (show b8 ≠ p from (by omega))
    have HO7 : Hid (wg.ownsRow w.heap.size 36 2 u3 o1.length (swC o1)) := HF7.own HOf.out hp
    replace HF7 : Hid (Fr p B w wg) := HFf.out.trans HF7
    go_wp2_with fail
    refine (lay_anyR p B (l1.take m) a _ (by omega) HL7).mono ?_
    rintro e wk ⟨rfl, HL8, HF8⟩
    replace HL8 : Hid (LfA p B wk (l1.take m ++ [a])) := HL8
    have h8 := HF8.swing H8.out (show b8 ≠ p from (by omega))
    replace HO7 : Hid (wk.ownsRow w.heap.size 36 2 u3 o1.length (swC o1)) := HF8.own HO7.out hp
    replace HF8 : Hid (Fr p B w wk) := HF7.out.trans HF8
    obtain ⟨d80, d81⟩ := swing_cells h8
    have zg : w.heap.size ≤ wk.heap.size := HF8.out.2.2.2.1
    have o4 : o1.length ≤ 1000 := by omega
    obtain ⟨so, co, rfl⟩ := own_val HO7.out
    clear h8 H8 HL7 HF7 HLf HOf HFf
    go_upto_region 2 with (at_builtin; refine list_Swing w.heap.size _ o1.length (swC o1) (.tmp 40) (.tmp 42) (by rfl) (by rfl) (by rfl) (by rfl) HO7.out (by omega) (by omega) ?_; intro g1 cap1 wh hown1 hgrow1 hlt1 hat1)
    have HL9 : Hid (LfA p B wh (l1.take m ++ [a])) := HL8.out.grown HO7.out hp hgrow1
    have HO9 : Hid (wh.ownsRow w.heap.size 36 2 (.slice (some ⟨g1, 0, none⟩) (o1.length + 1) cap1) (o1 ++ [(apt b d, 2)]).length (swC (o1 ++ [(apt b d, 2)]))) := by show World.ownsRow _ _ _ _ _ _ _; rw [swC_app, List.length_append]; exact hown1
    have HF9 : Hid (Fr p B w wh) := Fr.list HF8.out HO7.out hgrow1
    go_roundw
    case rel => exact ⟨l1.take m ++ [a], o1 ++ [(apt b d, 2)], HL9, HO9, HF9, HE2, HB2, hlen2⟩
    case measure => simp [lenR]; omega
end Go.Proofs.Ythengechoaodcaa
