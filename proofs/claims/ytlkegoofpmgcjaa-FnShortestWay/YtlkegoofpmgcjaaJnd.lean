/-
What is proved: what impl.joined makes of two lists: all that is in one of them, rising, each once.
-/
import Derived.Test.YtlkegoofpmgcjaaStA
import Derived.Test.YtlkegoofpmgcjaaLsF
namespace Go.Proofs.Ytlkegoofpmgcjaa
set_option maxRecDepth 40000
open Go.ChangeShapes Go.WideShapes Go.ChangeAt Go.RowKit
set_option linter.unusedVariables false
set_option linter.unusedSimpArgs false

open Go.Sort Go.Shelf
def jn (L1 L2 : List Int) : List Int := cmU (fun j => (srt (L1 ++ L2)).getD j 0) (L1 ++ L2).length
theorem cm_mem {U : Nat → Int} : ∀ (k : Nat) (x : Int), x ∈ cmU U k ↔ ∃ j, j < k ∧ U j = x
  | 0, x => by simp [cmU]
  | 1, x => by
    simp only [cmU, List.mem_singleton]
    exact ⟨fun e => ⟨0, by omega, e.symm⟩, fun ⟨j, hj, e⟩ => by obtain rfl : j = 0 := (by omega); exact e.symm⟩
  | k + 2, x => by
    have ih := cm_mem (U := U) (k + 1) x
    by_cases h : U (k + 1) = U k
    · rw [cmU_same (by omega) h, ih]
      exact ⟨fun ⟨j, hj, e⟩ => ⟨j, by omega, e⟩, fun ⟨j, hj, e⟩ => by
        by_cases z : j = k + 1
        · exact ⟨k, by omega, by rw [← h, ← z]; exact e⟩
        · exact ⟨j, by omega, e⟩⟩
    · rw [cmU_more (by omega) h, List.mem_append, ih, List.mem_singleton]
      exact ⟨fun q => by
        rcases q with ⟨j, hj, e⟩ | e
        · exact ⟨j, by omega, e⟩
        · exact ⟨k + 1, by omega, e.symm⟩, fun ⟨j, hj, e⟩ => by
        by_cases z : j = k + 1
        · right; rw [← z]; exact e.symm
        · exact .inl ⟨j, by omega, e⟩⟩
theorem cm_rise {U : Nat → Int} : ∀ (k : Nat), (∀ i j, i < j → j < k → U i ≤ U j) → (cmU U k).Pairwise (· < ·)
  | 0, _ => by simp [cmU]
  | 1, _ => by simp [cmU]
  | k + 2, h => by
    have ih := cm_rise (U := U) (k + 1) (fun i j h1 h2 => h i j h1 (by omega))
    by_cases q : U (k + 1) = U k
    · rw [cmU_same (by omega) q]; exact ih
    · rw [cmU_more (by omega) q, List.pairwise_append]
      refine ⟨ih, by simp, fun a ha b hb => ?_⟩
      rw [List.mem_singleton] at hb
      subst hb
      obtain ⟨j, hj, rfl⟩ := (cm_mem _ _).1 ha
      have h1 := h k (k + 1) (by omega) (by omega)
      by_cases z : j = k
      · subst z; omega
      · have := h j k (by omega) (by omega); omega
theorem jn_mem (L1 L2 : List Int) (x : Int) : x ∈ jn L1 L2 ↔ x ∈ L1 ∨ x ∈ L2 := by
  unfold jn
  rw [cm_mem]
  have hp := List.mergeSort_perm (L1 ++ L2) (fun x y => decide (x ≤ y))
  have hl : (srt (L1 ++ L2)).length = (L1 ++ L2).length := hp.length_eq
  rw [← List.mem_append, ← hp.mem_iff]
  constructor
  · rintro ⟨j, hj, rfl⟩
    rw [List.getD_eq_getElem?_getD, List.getElem?_eq_getElem (by omega)]
    exact List.getElem_mem _
  · intro hx
    obtain ⟨j, hj, e⟩ := List.getElem_of_mem hx
    exact ⟨j, by rw [← hl]; exact hj, by rw [List.getD_eq_getElem?_getD, List.getElem?_eq_getElem hj]; exact e⟩
theorem jn_rise (L1 L2 : List Int) : (jn L1 L2).Pairwise (· < ·) := by
  unfold jn
  refine cm_rise _ (fun i j h1 h2 => ?_)
  have hp := List.mergeSort_perm (L1 ++ L2) (fun x y => decide (x ≤ y))
  have hl : (srt (L1 ++ L2)).length = (L1 ++ L2).length := hp.length_eq
  have hs : (srt (L1 ++ L2)).Pairwise (fun a b => decide (a ≤ b) = true) := List.pairwise_mergeSort (fun a b c h1 h2 => by simp at *; omega) (fun a b => by simp; omega) _
  have := (List.pairwise_iff_getElem.1 hs) i j (by omega) (by omega) h1
  rw [List.getD_eq_getElem?_getD, List.getD_eq_getElem?_getD, List.getElem?_eq_getElem (by omega), List.getElem?_eq_getElem (by omega)]
  simpa using this
theorem rise_eq : ∀ (l m : List Int), l.Pairwise (· < ·) → m.Pairwise (· < ·) → (∀ x, x ∈ l ↔ x ∈ m) → l = m
  | [], m, _, _, h => by
    cases m with
    | nil => rfl
    | cons b m => exact absurd ((h b).2 (List.mem_cons_self ..)) (by simp)
  | a :: l, m, hl, hm, h => by
    cases m with
    | nil => exact absurd ((h a).1 (List.mem_cons_self ..)) (by simp)
    | cons b m =>
      rw [List.pairwise_cons] at hl hm
      have h1 := (h a).1 (List.mem_cons_self ..)
      have h2 := (h b).2 (List.mem_cons_self ..)
      have hab : a = b := by
        rcases List.mem_cons.1 h1 with e | e
        · exact e
        · rcases List.mem_cons.1 h2 with e' | e'
          · exact e'.symm
          · have := hl.1 b e'; have := hm.1 a e; omega
      subst hab
      rw [rise_eq l m hl.2 hm.2 (fun x => ?_)]
      have hx := h x
      rw [List.mem_cons, List.mem_cons] at hx
      constructor
      · intro q
        have := hl.1 x q
        rcases hx.1 (.inr q) with e | e
        · omega
        · exact e
      · intro q
        have := hm.1 x q
        rcases hx.2 (.inr q) with e | e
        · omega
        · exact e
/-- A strictly rising list between -3 and -1 has at most three. -/
theorem rise_len {l : List Int} (h : l.Pairwise (· < ·)) (hx : ∀ x, x ∈ l → -3 ≤ x ∧ x ≤ -1) : l.length ≤ 3 := by
  match l, h, hx with
  | [], _, _ => simp
  | [_], _, _ => simp
  | [_, _], _, _ => simp
  | [_, _, _], _, _ => simp
  | a :: b :: c :: d :: r, h, hx =>
    simp only [List.pairwise_cons, List.mem_cons] at h
    have h1 := h.1 b (.inl rfl)
    have h2 := h.2.1 c (.inl rfl)
    have h3 := h.2.2.1 d (.inl rfl)
    have h4 := hx a (by simp)
    have h5 := hx d (by simp)
    omega
theorem compact_nil (w : World) : Calls Try.prog 61 #[.slice none 0 0] w fun e w' => e = .returned (.slice none 0 0) ∧ w' = w := by
  go_enter Try.func61, Try.ntmps61
  go_wp2
  go_ret
  exact ⟨rfl, rfl⟩
def JnPost (L1 L2 : List Int) (w : World) (e : Ending) (w' : World) : Prop := ∃ t c, e = .returned (.slice t (jn L1 L2).length c) ∧ LstF w.heap.size w' t c (jn L1 L2) ∧ Below w.heap.size w w'
theorem own_CmA {base g cap : Nat} {zs : List Int} {w : World} (h : w.ownsRow base 2 1 (.slice (some ⟨g, 0, none⟩) zs.length cap) zs.length (encL zs)) (hz : zs ≠ []) : base ≤ g ∧ zs.length ≤ cap ∧ CmA g zs.length (fun j => zs.getD j 0) [] w := by
  rcases h.2 with ⟨e, _⟩ | ⟨g', cap', cur, e, hbase, hbk, h1, h2, h3, h4⟩
  · cases e
  · cases e
    have hH := holds_of_blockI (ss := zs) hbk (by rw [Nat.mul_one] at h4; exact h4)
    refine ⟨hbase, h1, (Array.getElem?_eq_some_iff.1 hbk).1, fun j hj => ?_, fun j => by simp [World.frozen?, hbk]⟩
    have := (hH j (by simpa using hj)).1
    rw [Nat.zero_add] at this
    rw [this, if_neg (by simp)]
    show some (Value.int .i64 _) = some (Value.int .i64 (zs.getD j 0))
    rw [List.getD_eq_getElem?_getD, List.getElem?_eq_getElem hj, getElem!_pos _ j (by simpa using hj)]
    simp
set_option maxRecDepth 20000 in
set_option maxHeartbeats 2000000 in
theorem joined_any (t1 t2 : Option Addr) (c1 c2 : Nat) (L1 L2 : List Int) (w : World) (h1 : L1.length ≤ 8) (h2 : L2.length ≤ 8) (H1 : Hid (LstV w t1 c1 L1)) (H2 : Hid (LstV w t2 c2 L2)) :
    Calls Try.prog 42 #[.slice t1 L1.length c1, .slice t2 L2.length c2] w fun e w' => JnPost L1 L2 w e w' := by
  have HCP : Hid (catP (fun j => if j = 0 then L1 else L2) 2 = L1 ++ L2) := by show _ = _; simp [catP]
  go_enter Try.func42, Try.ntmps42
  go_wp2_with fail
  obtain ⟨w1, hw1⟩ : ∃ z, z = w.alloc (.cells #[.slice t1 L1.length c1, .slice t2 L2.length c2] 27) := ⟨_, rfl⟩
  rw [← hw1]
  have b1 : Below w.heap.size w w1 := by rw [hw1]; exact below0 _ _
  have HT : Hid (TwoL w1 w.heap.size (fun j => if j = 0 then t1 else t2) (fun j => if j = 0 then c1 else c2) (fun j => if j = 0 then L1 else L2)) := by
    refine ⟨by rw [hw1]; simp, fun j hj => ?_⟩
    rcases (show j = 0 ∨ j = 1 by omega) with rfl | rfl
    · exact ⟨by rw [hw1]; simp [go_sem], H1.out.below b1⟩
    · exact ⟨by rw [hw1]; simp [go_sem], H2.out.below b1⟩
  have HB : Hid (Below w.heap.size w w1) := b1
  clear hw1 b1 H1 H2
  refine (concat2_any w.heap.size _ _ _ w1 (fun j hj => by show (if j = 0 then L1 else L2).length ≤ 48; split <;> omega) HT).mono ?_
  rintro e w2 ⟨v, rfl, hO, b2⟩
  rw [HCP.out] at hO
  have sz1 : w.heap.size ≤ w1.heap.size := HB.out.size
  replace HB : Hid (Below w.heap.size w w2) := HB.out.trans (b2.mono HB.out.size)
  have hlen : (L1 ++ L2).length ≤ 16 := by rw [List.length_append]; omega
  have HJN : Hid (jn L1 L2 = cmU (fun j => (srt (L1 ++ L2)).getD j 0) (L1 ++ L2).length) := rfl
  obtain ⟨zs, hzs⟩ : ∃ z, L1 ++ L2 = z := ⟨_, rfl⟩
  rw [hzs] at hO hlen HJN
  have HLS : Hid ((srt zs).length = zs.length) := (List.mergeSort_perm zs (fun x y => decide (x ≤ y))).length_eq
  clear HT HCP hzs h1 h2 b2
  rcases hO with ⟨hz, rfl⟩ | ⟨hz, hO⟩
  case inl =>
    subst hz
    have HJ0 : Hid (jn L1 L2 = []) := HJN.out
    clear HJN HLS
    go_wp2_with fail
    refine (sort_none _).mono ?_
    rintro e w3 ⟨rfl, rfl⟩
    rename World => w2
    go_wp2_with fail
    refine (compact_nil _).mono ?_
    rintro e w3 ⟨rfl, rfl⟩
    have BF := HB.out
    go_wp2
    go_ret
    unfold JnPost
    rw [HJ0.out]
    exact ⟨none, 0, rfl, .inl ⟨rfl, rfl, rfl⟩, BF⟩
  case inr =>
    obtain ⟨g, cap, hv⟩ : ∃ g cap, v = .slice (some ⟨g, 0, none⟩) zs.length cap := by
      rcases hO.2 with ⟨_, q⟩ | ⟨g, cap, cur, e, _⟩
      · exact (hz (List.eq_nil_of_length_eq_zero q)).elim
      · exact ⟨g, cap, e⟩
    subst hv
    have HO : Hid (w2.ownsRow w1.heap.size 2 1 (.slice (some ⟨g, 0, none⟩) zs.length cap) zs.length (encL zs)) := hO
    clear hO
    go_wp2_with fail
    refine (sort_own w.heap.size g cap zs w2 HB.out.size (by omega) ⟨HO.out.1, by
      rcases HO.out.2 with q | ⟨g', cap', cur, e, hb, r⟩
      · exact .inl q
      · exact .inr ⟨g', cap', cur, e, by omega, r⟩⟩).mono ?_
    rintro e w3 ⟨rfl, hO3, b3⟩
    have hne : srt zs ≠ [] := fun e => hz (List.eq_nil_of_length_eq_zero (by rw [← HLS.out, e]; rfl))
    have hC := own_CmA (zs := srt zs) (by rw [HLS.out]; exact hO3) hne
    rw [HLS.out] at hC
    have HC : Hid (CmA g zs.length (fun j => (srt zs).getD j 0) [] w3) := hC.2.2
    have gb := hC.1
    have hcap := hC.2.1
    have zpos : 1 ≤ zs.length := by
      rcases Nat.eq_zero_or_pos zs.length with q | q
      · exact (hz (List.eq_nil_of_length_eq_zero q)).elim
      · exact q
    replace HB : Hid (Below w.heap.size w w3) := HB.out.trans b3
    clear hC hO3 b3 HO hne HLS
    go_wp2_with fail
    refine (compact_any g cap zs.length (fun j => (srt zs).getD j 0) w3 zpos (by omega) (by omega) HC).mono ?_
    rintro e w4 hP
    unfold CpPost at hP
    rw [← HJN.out] at hP
    obtain ⟨rfl, gz, hc, hf, bs⟩ := hP
    have BF : Below w.heap.size w w4 := HB.out.trans (bs.below gb HB.out.size)
    have HF : Hid (LstF w.heap.size w4 (some ⟨g, 0, none⟩) cap (jn L1 L2)) := .inr ⟨fun e => by
      have h0 := cm_mem (U := fun j => (srt zs).getD j 0) zs.length ((srt zs).getD 0 0)
      rw [← HJN.out, e] at h0
      exact absurd (h0.2 ⟨0, by omega, rfl⟩) (by simp), g, rfl, gb, gz, hc, hf⟩
    clear hc hf bs HJN HC
    go_wp2
    go_ret
    unfold JnPost
    exact ⟨_, cap, rfl, HF.out, BF⟩
end Go.Proofs.Ytlkegoofpmgcjaa
