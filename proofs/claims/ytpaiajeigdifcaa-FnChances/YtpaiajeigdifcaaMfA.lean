/-
What is proved: slices' own merge of two sorted parts, one of which has a single one.
-/
import Derived.Test.YtpaiajeigdifcaaMfI
import Derived.Deep.RegionHeldLaw
import Derived.Deep.DeepCutAuto
namespace Go.Proofs.Ytpaiajeigdifcaa
set_option maxRecDepth 40000
open Go.ChangeShapes Go.WideShapes Go.ChangeAt Go.RowKit
set_option linter.unusedVariables false
set_option linter.unusedSimpArgs false

theorem insI_of {lt : Int → Int → Prop} (tr : ∀ x y z, lt x y → lt y z → lt x z) {V : Nat → Int} {a i m : Nat} (h1 : a ≤ i) (hS : SortS lt V a m) (h : i < m → lt (V m) (V i)) : InsI lt V m i := fun k g1 g2 => by
  have c := h (by omega)
  by_cases q : k = i
  · rw [q]; exact c
  · exact tr _ _ _ c (hS i k h1 (by omega) g2)
/-- What a merge comes to. -/
def Merged (lt : Int → Int → Prop) (V W : Nat → Int) (a b : Nat) : Prop := SortS lt W a b ∧ SameS V W a b ∧ OutS V W a b
theorem merged_one {lt : Int → Int → Prop} (tr : ∀ x y z, lt x y → lt y z → lt x z) {V : Nat → Int} {a m i b : Nat} (hm : m = a + 1) (h1 : m ≤ i) (h2 : i ≤ b) (hS : SortS lt V m b) (hl : m < i → lt (V (i - 1)) (V a)) (hc : i < b → lt (V a) (V i)) : Merged lt V (rotF V a (a + 1) i) a b := by
  subst hm
  have o := rot_out V (Nat.le_succ a) h1
  exact ⟨ins_left tr h1 h2 hS hl hc, (rot_sameS V (Nat.le_succ a) h1).sub o (Nat.le_refl _) h2 (by omega), o.wide (Nat.le_refl _) h2⟩
theorem merged_last {lt : Int → Int → Prop} (tr : ∀ x y z, lt x y → lt y z → lt x z) {V : Nat → Int} {a m i b : Nat} (hb : b = m + 1) (h1 : a ≤ i) (h2 : i ≤ m) (hS : SortS lt V a m) (hl : a < i → lt (V (i - 1)) (V m)) (hc : i < m → lt (V m) (V i)) : Merged lt V (rotF V i m (m + 1)) a b := by
  subst hb
  have o := rot_out V h2 (Nat.le_succ m)
  exact ⟨ins_right tr h1 h2 hS (insI_of tr h1 hS hc) (by by_cases q : i = a; exact Or.inl q; exact Or.inr (hl (by omega))), (rot_sameS V h2 (Nat.le_succ m)).sub o h1 (Nat.le_refl _) (by omega), o.wide h1 (Nat.le_refl _)⟩
/-- Behind the rotation: two merges are left, in the parts ahead of the middle and behind it. -/
def CutU (Ok : Int → Prop) (lt : Int → Int → Prop) (n : Nat) (V U : Nat → Int) (a s m e b : Nat) : Prop := SepS lt U a m b ∧ (SortS lt U a s ∧ SortS lt U s m) ∧ (SortS lt U m e ∧ SortS lt U e b) ∧ CrossS U a s m ∧ CrossS U m e b ∧ SameS V U a b ∧ OutS V U a b ∧ ∀ k, k < n → Ok (U k)
theorem cutU_of {Ok : Int → Prop} {lt : Int → Int → Prop} (tr : ∀ x y z, lt x y → lt y z → lt x z) {n : Nat} {V : Nat → Int} {a s m e b d : Nat} (hd : s + (e - m) = d) (h1 : a ≤ s) (h2 : s ≤ m) (h3 : m ≤ e) (h4 : e ≤ b) (hb : b ≤ n) (hL : SortS lt V a m) (hR : SortS lt V m b) (hX : CrossS V a m b) (hO : ∀ k, k < n → Ok (V k)) (c1 : a < s → e < b → lt (V (s - 1)) (V e)) (c2 : m < e → s < m → lt (V (e - 1)) (V s)) : CutU Ok lt n V (rotF V s m e) a s d e b := by
  subst hd
  obtain ⟨q1, q2, q3, q4, q5⟩ := merge_cut tr h1 h2 h3 h4 hL hR c1 c2
  have o := rot_out V h2 h3
  have s1 := (rot_sameS V h2 h3).sub o h1 h4 (by omega)
  have o1 := o.wide h1 h4
  refine ⟨q1, ⟨q2, q3⟩, ⟨q4, q5⟩, fun i j g1 g2 g3 g4 => ?_, fun i j g1 g2 g3 g4 => ?_, s1, o1, ok_same hO s1 o1 hb⟩
  · rw [o i (Or.inl g2), rot_A V h2 h3 g3 g4]; exact hX _ _ g1 (by omega) (by omega) (by omega)
  · rw [rot_B V h2 h3 g1 g2, o j (Or.inr g3)]; exact hX _ _ (by omega) (by omega) (by omega) g4
theorem CrossS.out {V W : Nat → Int} {lo hi a m b : Nat} (h : CrossS V a m b) (o : OutS V W lo hi) (g : b ≤ lo ∨ hi ≤ a) : CrossS W a m b := fun i j g1 g2 g3 g4 => by rw [o i (by omega), o j (by omega)]; exact h i j g1 g2 g3 g4
theorem merged_refl {lt : Int → Int → Prop} {U : Nat → Int} {a s m : Nat} (h1 : a ≤ s) (h2 : s ≤ m) (h : SortS lt U a s ∧ SortS lt U s m) (q : ¬ (a < s ∧ s < m)) : Merged lt U U a m := by
  refine ⟨?_, SameS.refl _ _ _, OutS.refl _ _ _⟩
  by_cases z : s = a
  · subst z; exact h.2
  · obtain rfl : s = m := by omega
    exact h.1
theorem merged_end {Ok : Int → Prop} {lt : Int → Int → Prop} {n : Nat} {V U X Y : Nat → Int} {a s m e b : Nat} (am : a ≤ m) (mb : m ≤ b) (h : CutU Ok lt n V U a s m e b) (h1 : Merged lt U X a m) (h2 : Merged lt X Y m b) : Merged lt V Y a b := by
  obtain ⟨sep, _, _, _, _, sVU, oVU, _⟩ := h
  obtain ⟨x1, x2, x3⟩ := h1
  obtain ⟨y1, y2, y3⟩ := h2
  refine ⟨sort_join (x1.out y3 (Or.inl (Nat.le_refl _))) y1 (fun i j g1 g2 g3 g4 => ?_), (sVU.trans (x2.sub x3 (Nat.le_refl _) mb am)).trans (y2.sub y3 am (Nat.le_refl _) mb), (oVU.trans (x3.wide (Nat.le_refl _) mb)).trans (y3.wide am (Nat.le_refl _))⟩
  obtain ⟨i', p1, p2, ei⟩ := x2.1 i g1 g2
  obtain ⟨j', p3, p4, ej⟩ := y2.1 j g3 g4
  rw [y3 i (Or.inl g2), ei, ej, x3 j' (Or.inr p3)]
  exact sep i' j' p1 p2 p3 p4
set_option maxRecDepth 20000 in
set_option maxHeartbeats 8000000 in
theorem merge_one (B n cp : Nat) (c1 c2 : Value) (Ok : Int → Prop) (Cap : World → Prop) (lt : Int → Int → Prop) (tr : ∀ x y z, lt x y → lt y z → lt x z) (tot : ∀ x y, x < y → ¬ lt y x → lt x y) (hn : n ≤ 1000) (HM : Hid (CmpK Ok Cap lt c1 c2)) (HK : Hid (CapK B Cap)) (a m b : Nat) (Z : Nat → Int) (w : World) (h1 : a < m) (h2 : m < b) (h3 : b ≤ n) (HD : Hid (DatF w B n Z)) (HC : Hid (Cap w)) (HL : Hid (SortS lt Z a m)) (HR : Hid (SortS lt Z m b)) (HX0 : Hid (CrossS Z a m b)) (HO : Hid (∀ k, k < n → Ok (Z k))) (hm : m = a + 1) :
    Calls Try.prog 107 #[.slice (some ⟨B, 0, none⟩) n cp, .int .i64 (a : Int), .int .i64 (m : Int), .int .i64 (b : Int), .func (.func 82) #[] #[]] w fun e w' => (e = .returned (.tuple #[])) ∧ (∃ W, Merged lt Z W a b ∧ DatF w' B n W) ∧ Turn (fun q => q = B) w w' := by
  have e1 : (m : Int) - (a : Int) = 1 := by omega
  have Hm : Hid (m = a + 1) := hm
  clear hm
  go_enter Try.func107, Try.ntmps107
  go_wp2_with fail
  go_loopw [10, 11] (fun u v wr => ∃ (i j : Nat), m ≤ i ∧ i ≤ j ∧ j ≤ b ∧ u = .int .i64 i ∧ v = .int .i64 j ∧ Hid ((m < i → lt (Z (i - 1)) (Z a)) ∧ (j < b → lt (Z a) (Z j))) ∧ Hid (DatF wr B n Z) ∧ Hid (Turn (fun q => q = B) w wr)) (fun u v _ => (intOf v).toNat - (intOf u).toNat)
  case atStart => exact ⟨m, b, Nat.le_refl _, by omega, Nat.le_refl _, rfl, rfl, ⟨fun q => by omega, fun q => by omega⟩, HD, Turn.refl _ _⟩
  case round =>
    clear HD
    obtain ⟨i, j, i1, i2, i3, rfl, rfl, HI, HD, HT⟩ := hrel
    rename World => ws
    replace HC : Hid (Cap ws) := HK.out _ _ HC.out HT.out
    by_cases hij : i < j
    case pos =>
      have k1 : (i : Int) < (j : Int) := by omega
      obtain ⟨I, hI⟩ : ∃ z : Nat, z = (i + j) / 2 := ⟨_, rfl⟩
      have hz : ((i : Int) + (j : Int)) / 2 = (I : Int) := by omega
      have b1 : i ≤ I := by omega
      have b2 : I < j := by omega
      have iI : I < n := by omega
      have iJ : a < n := by omega
      have jI : (I : Int) < (n : Int) := by omega
      have jJ : (a : Int) < (n : Int) := by omega
      have okI := HO.out I iI
      have okJ := HO.out a iJ
      have xlt : Z a < Z I := HX0.out a I (Nat.le_refl _) h1 (by omega) (by omega)
      have zb : B < ws.heap.size := HD.out.1
      have dI := HD.out.2.2 I iI
      have dJ := HD.out.2.2 a iJ
      clear hI
      by_cases hlt : lt (Z I) (Z a)
      case pos =>
        have HN : Hid ((m < I + 1 → lt (Z (I + 1 - 1)) (Z a)) ∧ (j < b → lt (Z a) (Z j))) := ⟨fun _ => hlt, HI.out.2⟩
        have HX : Hid (∀ W', Cap W' → Calls Try.prog 82 #[.int .u32 (Z I), .int .u32 (Z a)] W' fun e w'' => ∃ c, (e = .returned (.int .i64 c)) ∧ (decide (c < 0) = true) ∧ Below W'.heap.size W' w'') := fun W' hW => (HM.out W' (Z a) (Z I) hW okJ okI xlt).mono (fun e w'' ⟨c, h1, h2, h3⟩ => ⟨c, h1, decide_eq_true (h2.mpr hlt), h3⟩)
        clear hlt xlt okI okJ HI
        go_upto_region 5 with fail
        refine wp_region_held_drew (S := fun w' => w'.cell? ⟨B, I, none⟩ = some (.int .u32 (Z I)) ∧ w'.cell? ⟨B, a, none⟩ = some (.int .u32 (Z a))) (by kernel_rfl) ?_ (fun hHeld => ?_)
        · exact ⟨((Below.drew (Below.refl _ _) : Below ws.heap.size ws ws.drew).cell (p := ⟨B, I, none⟩) zb).trans dI, ((Below.drew (Below.refl _ _) : Below ws.heap.size ws ws.drew).cell (p := ⟨B, a, none⟩) zb).trans dJ⟩
        obtain ⟨u0, hv0⟩ : ∃ z, z = ws.drew := ⟨_, rfl⟩
        try rw [← hv0] at hHeld
        rw [← hv0]
        have bv0 : Below ws.heap.size ws u0 := by rw [hv0]; exact Below.drew (Below.refl _ _)
        clear hv0
        replace HD : Hid (DatF u0 B n Z) := HD.out.below bv0
        replace HT : Hid (Turn (fun q => q = B) w u0) := HT.out.trans (Turn.grown bv0)
        replace HC : Hid (Cap u0) := HK.out _ _ HC.out (Turn.grown bv0)
        clear bv0 dI dJ zb
        refine wpAnyH_take (i := 0) (v := .func (.func 82) #[] #[]) rfl (by kernel_rfl) (by kernel_rfl) (by kernel_rfl) (fun _ _ _ h => h) (Or.inl ⟨by kernel_rfl, ?_⟩) hHeld ?_
        · intro w' hSw
          obtain ⟨s0, s1⟩ := hSw
          first | (go_simp; done) | (go_simp; with_reducible rfl) | (go_simp; rw [IntKind.wrap_i64]; omega) | (go_simp; omega)
        simp only [Act.put, List.setIfInBounds_toArray, List.set_cons_zero, List.set_cons_succ]
        refine wpAnyH_take (i := 1) (v := .slice (some ⟨B, 0, none⟩) n cp) rfl (by kernel_rfl) (by kernel_rfl) (by kernel_rfl) (fun _ _ _ h => h) (Or.inl ⟨by kernel_rfl, ?_⟩) hHeld ?_
        · intro w' hSw
          obtain ⟨s0, s1⟩ := hSw
          first | (go_simp; done) | (go_simp; with_reducible rfl) | (go_simp; rw [IntKind.wrap_i64]; omega) | (go_simp; omega)
        simp only [Act.put, List.setIfInBounds_toArray, List.set_cons_zero, List.set_cons_succ]
        refine wpAnyH_take (i := 2) (v := .int .i64 (I : Int)) rfl (by kernel_rfl) (by kernel_rfl) (by kernel_rfl) (fun _ _ _ h => h) (Or.inl ⟨by kernel_rfl, ?_⟩) hHeld ?_
        · intro w' hSw
          obtain ⟨s0, s1⟩ := hSw
          first | (go_simp; done) | (go_simp; with_reducible rfl) | (go_simp; rw [IntKind.wrap_i64]; omega) | (go_simp; omega)
        simp only [Act.put, List.setIfInBounds_toArray, List.set_cons_zero, List.set_cons_succ]
        refine wpAnyH_take (i := 3) (v := .pointer (some ⟨B, I, none⟩)) rfl (by kernel_rfl) (by kernel_rfl) (by kernel_rfl) (fun _ _ _ h => h) (Or.inl ⟨by kernel_rfl, ?_⟩) hHeld ?_
        · intro w' hSw
          obtain ⟨s0, s1⟩ := hSw
          first | (go_simp; done) | (go_simp; with_reducible rfl) | (go_simp; rw [IntKind.wrap_i64]; omega) | (go_simp; omega)
        simp only [Act.put, List.setIfInBounds_toArray, List.set_cons_zero, List.set_cons_succ]
        refine wpAnyH_take (i := 4) (v := .int .u32 (Z I)) rfl (by kernel_rfl) (by kernel_rfl) (by kernel_rfl) (fun _ _ _ h => h) (Or.inl ⟨by kernel_rfl, ?_⟩) hHeld ?_
        · intro w' hSw
          obtain ⟨s0, s1⟩ := hSw
          first | (go_simp; done) | (go_simp; with_reducible rfl) | (go_simp; rw [IntKind.wrap_i64]; omega) | (go_simp; omega)
        simp only [Act.put, List.setIfInBounds_toArray, List.set_cons_zero, List.set_cons_succ]
        refine wpAnyH_take (i := 5) (v := .slice (some ⟨B, 0, none⟩) n cp) rfl (by kernel_rfl) (by kernel_rfl) (by kernel_rfl) (fun _ _ _ h => h) (Or.inl ⟨by kernel_rfl, ?_⟩) hHeld ?_
        · intro w' hSw
          obtain ⟨s0, s1⟩ := hSw
          first | (go_simp; done) | (go_simp; with_reducible rfl) | (go_simp; rw [IntKind.wrap_i64]; omega) | (go_simp; omega)
        simp only [Act.put, List.setIfInBounds_toArray, List.set_cons_zero, List.set_cons_succ]
        refine wpAnyH_take (i := 6) (v := .int .i64 (a : Int)) rfl (by kernel_rfl) (by kernel_rfl) (by kernel_rfl) (fun _ _ _ h => h) (Or.inl ⟨by kernel_rfl, ?_⟩) hHeld ?_
        · intro w' hSw
          obtain ⟨s0, s1⟩ := hSw
          first | (go_simp; done) | (go_simp; with_reducible rfl) | (go_simp; rw [IntKind.wrap_i64]; omega) | (go_simp; omega)
        simp only [Act.put, List.setIfInBounds_toArray, List.set_cons_zero, List.set_cons_succ]
        refine wpAnyH_take (i := 7) (v := .pointer (some ⟨B, a, none⟩)) rfl (by kernel_rfl) (by kernel_rfl) (by kernel_rfl) (fun _ _ _ h => h) (Or.inl ⟨by kernel_rfl, ?_⟩) hHeld ?_
        · intro w' hSw
          obtain ⟨s0, s1⟩ := hSw
          first | (go_simp; done) | (go_simp; with_reducible rfl) | (go_simp; rw [IntKind.wrap_i64]; omega) | (go_simp; omega)
        simp only [Act.put, List.setIfInBounds_toArray, List.set_cons_zero, List.set_cons_succ]
        refine wpAnyH_take (i := 8) (v := .int .u32 (Z a)) rfl (by kernel_rfl) (by kernel_rfl) (by kernel_rfl) (fun _ _ _ h => h) (Or.inl ⟨by kernel_rfl, ?_⟩) hHeld ?_
        · intro w' hSw
          obtain ⟨s0, s1⟩ := hSw
          first | (go_simp; done) | (go_simp; with_reducible rfl) | (go_simp; rw [IntKind.wrap_i64]; omega) | (go_simp; omega)
        simp only [Act.put, List.setIfInBounds_toArray, List.set_cons_zero, List.set_cons_succ]
        refine wpAnyH_ready (rs := [9]) (by kernel_rfl) (by simp) ?_
        refine (AllReadyH.cons rfl (fun KK hK => ?_) AllReadyH.nil)
        go_simp
        go_wp2_with fail
        refine (HX.out _ HC.out).mono ?_
        rintro e u0_1 ⟨c, rfl, hc, h6⟩
        replace HD : Hid (DatF u0_1 B n Z) := HD.out.below h6
        replace HT : Hid (Turn (fun q => q = B) w u0_1) := HT.out.trans (Turn.grown h6)
        replace HC : Hid (Cap u0_1) := HK.out _ _ HC.out (Turn.grown h6)
        clear h6
        have dI := HD.out.2.2 I iI
        have dJ := HD.out.2.2 a iJ
        refine hK.out _ _ (⟨dI, dJ⟩) (fun hHeld => ?_)
        clear hK KK
        refine wpAnyH_take (i := 10) (v := .bool true) rfl (by kernel_rfl) (by kernel_rfl) (by kernel_rfl) (fun _ _ _ h => h) (Or.inl ⟨by kernel_rfl, ?_⟩) hHeld ?_
        · intro w' hSw
          obtain ⟨s0, s1⟩ := hSw
          first | (go_simp; done) | (go_simp; with_reducible rfl) | (go_simp; rw [IntKind.wrap_i64]; omega) | (go_simp; omega)
        simp only [Act.put, List.setIfInBounds_toArray, List.set_cons_zero, List.set_cons_succ]
        refine wpAnyH_done (by kernel_rfl) ?_ _
        clear hHeld
        clear hc dI dJ HX
        go_wp2
        go_roundw
        case rel => exact ⟨I + 1, j, by omega, by omega, i3, by go_num, rfl, HN, HD, HT⟩
        case measure => first | (simp [intOf]; done) | (simp [intOf]; omega)
      case neg =>
        have HN : Hid ((m < i → lt (Z (i - 1)) (Z a)) ∧ (I < b → lt (Z a) (Z I))) := ⟨HI.out.1, fun _ => tot _ _ xlt hlt⟩
        have HX : Hid (∀ W', Cap W' → Calls Try.prog 82 #[.int .u32 (Z I), .int .u32 (Z a)] W' fun e w'' => ∃ c, (e = .returned (.int .i64 c)) ∧ (decide (c < 0) = false) ∧ Below W'.heap.size W' w'') := fun W' hW => (HM.out W' (Z a) (Z I) hW okJ okI xlt).mono (fun e w'' ⟨c, h1, h2, h3⟩ => ⟨c, h1, decide_eq_false (fun q => hlt (h2.mp q)), h3⟩)
        clear hlt xlt okI okJ HI
        go_upto_region 5 with fail
        refine wp_region_held_drew (S := fun w' => w'.cell? ⟨B, I, none⟩ = some (.int .u32 (Z I)) ∧ w'.cell? ⟨B, a, none⟩ = some (.int .u32 (Z a))) (by kernel_rfl) ?_ (fun hHeld => ?_)
        · exact ⟨((Below.drew (Below.refl _ _) : Below ws.heap.size ws ws.drew).cell (p := ⟨B, I, none⟩) zb).trans dI, ((Below.drew (Below.refl _ _) : Below ws.heap.size ws ws.drew).cell (p := ⟨B, a, none⟩) zb).trans dJ⟩
        obtain ⟨u0, hv0⟩ : ∃ z, z = ws.drew := ⟨_, rfl⟩
        try rw [← hv0] at hHeld
        rw [← hv0]
        have bv0 : Below ws.heap.size ws u0 := by rw [hv0]; exact Below.drew (Below.refl _ _)
        clear hv0
        replace HD : Hid (DatF u0 B n Z) := HD.out.below bv0
        replace HT : Hid (Turn (fun q => q = B) w u0) := HT.out.trans (Turn.grown bv0)
        replace HC : Hid (Cap u0) := HK.out _ _ HC.out (Turn.grown bv0)
        clear bv0 dI dJ zb
        refine wpAnyH_take (i := 0) (v := .func (.func 82) #[] #[]) rfl (by kernel_rfl) (by kernel_rfl) (by kernel_rfl) (fun _ _ _ h => h) (Or.inl ⟨by kernel_rfl, ?_⟩) hHeld ?_
        · intro w' hSw
          obtain ⟨s0, s1⟩ := hSw
          first | (go_simp; done) | (go_simp; with_reducible rfl) | (go_simp; rw [IntKind.wrap_i64]; omega) | (go_simp; omega)
        simp only [Act.put, List.setIfInBounds_toArray, List.set_cons_zero, List.set_cons_succ]
        refine wpAnyH_take (i := 1) (v := .slice (some ⟨B, 0, none⟩) n cp) rfl (by kernel_rfl) (by kernel_rfl) (by kernel_rfl) (fun _ _ _ h => h) (Or.inl ⟨by kernel_rfl, ?_⟩) hHeld ?_
        · intro w' hSw
          obtain ⟨s0, s1⟩ := hSw
          first | (go_simp; done) | (go_simp; with_reducible rfl) | (go_simp; rw [IntKind.wrap_i64]; omega) | (go_simp; omega)
        simp only [Act.put, List.setIfInBounds_toArray, List.set_cons_zero, List.set_cons_succ]
        refine wpAnyH_take (i := 2) (v := .int .i64 (I : Int)) rfl (by kernel_rfl) (by kernel_rfl) (by kernel_rfl) (fun _ _ _ h => h) (Or.inl ⟨by kernel_rfl, ?_⟩) hHeld ?_
        · intro w' hSw
          obtain ⟨s0, s1⟩ := hSw
          first | (go_simp; done) | (go_simp; with_reducible rfl) | (go_simp; rw [IntKind.wrap_i64]; omega) | (go_simp; omega)
        simp only [Act.put, List.setIfInBounds_toArray, List.set_cons_zero, List.set_cons_succ]
        refine wpAnyH_take (i := 3) (v := .pointer (some ⟨B, I, none⟩)) rfl (by kernel_rfl) (by kernel_rfl) (by kernel_rfl) (fun _ _ _ h => h) (Or.inl ⟨by kernel_rfl, ?_⟩) hHeld ?_
        · intro w' hSw
          obtain ⟨s0, s1⟩ := hSw
          first | (go_simp; done) | (go_simp; with_reducible rfl) | (go_simp; rw [IntKind.wrap_i64]; omega) | (go_simp; omega)
        simp only [Act.put, List.setIfInBounds_toArray, List.set_cons_zero, List.set_cons_succ]
        refine wpAnyH_take (i := 4) (v := .int .u32 (Z I)) rfl (by kernel_rfl) (by kernel_rfl) (by kernel_rfl) (fun _ _ _ h => h) (Or.inl ⟨by kernel_rfl, ?_⟩) hHeld ?_
        · intro w' hSw
          obtain ⟨s0, s1⟩ := hSw
          first | (go_simp; done) | (go_simp; with_reducible rfl) | (go_simp; rw [IntKind.wrap_i64]; omega) | (go_simp; omega)
        simp only [Act.put, List.setIfInBounds_toArray, List.set_cons_zero, List.set_cons_succ]
        refine wpAnyH_take (i := 5) (v := .slice (some ⟨B, 0, none⟩) n cp) rfl (by kernel_rfl) (by kernel_rfl) (by kernel_rfl) (fun _ _ _ h => h) (Or.inl ⟨by kernel_rfl, ?_⟩) hHeld ?_
        · intro w' hSw
          obtain ⟨s0, s1⟩ := hSw
          first | (go_simp; done) | (go_simp; with_reducible rfl) | (go_simp; rw [IntKind.wrap_i64]; omega) | (go_simp; omega)
        simp only [Act.put, List.setIfInBounds_toArray, List.set_cons_zero, List.set_cons_succ]
        refine wpAnyH_take (i := 6) (v := .int .i64 (a : Int)) rfl (by kernel_rfl) (by kernel_rfl) (by kernel_rfl) (fun _ _ _ h => h) (Or.inl ⟨by kernel_rfl, ?_⟩) hHeld ?_
        · intro w' hSw
          obtain ⟨s0, s1⟩ := hSw
          first | (go_simp; done) | (go_simp; with_reducible rfl) | (go_simp; rw [IntKind.wrap_i64]; omega) | (go_simp; omega)
        simp only [Act.put, List.setIfInBounds_toArray, List.set_cons_zero, List.set_cons_succ]
        refine wpAnyH_take (i := 7) (v := .pointer (some ⟨B, a, none⟩)) rfl (by kernel_rfl) (by kernel_rfl) (by kernel_rfl) (fun _ _ _ h => h) (Or.inl ⟨by kernel_rfl, ?_⟩) hHeld ?_
        · intro w' hSw
          obtain ⟨s0, s1⟩ := hSw
          first | (go_simp; done) | (go_simp; with_reducible rfl) | (go_simp; rw [IntKind.wrap_i64]; omega) | (go_simp; omega)
        simp only [Act.put, List.setIfInBounds_toArray, List.set_cons_zero, List.set_cons_succ]
        refine wpAnyH_take (i := 8) (v := .int .u32 (Z a)) rfl (by kernel_rfl) (by kernel_rfl) (by kernel_rfl) (fun _ _ _ h => h) (Or.inl ⟨by kernel_rfl, ?_⟩) hHeld ?_
        · intro w' hSw
          obtain ⟨s0, s1⟩ := hSw
          first | (go_simp; done) | (go_simp; with_reducible rfl) | (go_simp; rw [IntKind.wrap_i64]; omega) | (go_simp; omega)
        simp only [Act.put, List.setIfInBounds_toArray, List.set_cons_zero, List.set_cons_succ]
        refine wpAnyH_ready (rs := [9]) (by kernel_rfl) (by simp) ?_
        refine (AllReadyH.cons rfl (fun KK hK => ?_) AllReadyH.nil)
        go_simp
        go_wp2_with fail
        refine (HX.out _ HC.out).mono ?_
        rintro e u0_1 ⟨c, rfl, hc, h6⟩
        replace HD : Hid (DatF u0_1 B n Z) := HD.out.below h6
        replace HT : Hid (Turn (fun q => q = B) w u0_1) := HT.out.trans (Turn.grown h6)
        replace HC : Hid (Cap u0_1) := HK.out _ _ HC.out (Turn.grown h6)
        clear h6
        have dI := HD.out.2.2 I iI
        have dJ := HD.out.2.2 a iJ
        refine hK.out _ _ (⟨dI, dJ⟩) (fun hHeld => ?_)
        clear hK KK
        refine wpAnyH_take (i := 10) (v := .bool false) rfl (by kernel_rfl) (by kernel_rfl) (by kernel_rfl) (fun _ _ _ h => h) (Or.inl ⟨by kernel_rfl, ?_⟩) hHeld ?_
        · intro w' hSw
          obtain ⟨s0, s1⟩ := hSw
          first | (go_simp; done) | (go_simp; with_reducible rfl) | (go_simp; rw [IntKind.wrap_i64]; omega) | (go_simp; omega)
        simp only [Act.put, List.setIfInBounds_toArray, List.set_cons_zero, List.set_cons_succ]
        refine wpAnyH_done (by kernel_rfl) ?_ _
        clear hHeld
        clear hc dI dJ HX
        go_wp2
        go_roundw
        case rel => exact ⟨i, I, i1, b1, by omega, rfl, by go_num, HN, HD, HT⟩
        case measure => first | (simp [intOf]; done) | (simp [intOf]; omega)
    case neg =>
      obtain rfl : i = j := by omega
      have k1 : decide ((i : Int) < (i : Int)) = false := decide_eq_false (by omega)
      have HE : Hid (Merged lt Z (rotF Z a (a + 1) i) a b) := merged_one tr Hm.out i1 i3 HR.out HI.out.1 HI.out.2
      clear HI HR HL HX0 HO HM
      go_wp2_with fail
      go_loopw [13] (fun q wr => ∃ (k : Nat), a ≤ k ∧ k + 1 ≤ i ∧ q = .int .i64 k ∧ Hid (DatF wr B n (rotF Z a (a + 1) (k + 1))) ∧ Hid (Turn (fun q => q = B) w wr)) (fun q _ => i - (intOf q).toNat)
      case atStart => exact ⟨a, Nat.le_refl _, by omega, rfl, by show DatF _ _ _ _; rw [rot_same Z (Nat.le_succ _) (Nat.le_refl _) (Or.inr rfl)]; exact HD.out, HT⟩
      case round =>
        clear HD HT
        obtain ⟨I, ka, kb, rfl, HD, HT⟩ := hrel
        by_cases hk : I + 1 < i
        case neg =>
          have e2 : I + 1 = i := by omega
          rw [e2] at HD
          have q1 : decide ((I : Int) < (i : Int) - 1) = false := decide_eq_false (by omega)
          have q2 : (i : Int) - 1 ≤ (I : Int) := by omega
          go_wp2
          (try simp only [Exit.inBlock, Exit.then])
          refine bodyPost_ret (results_none rfl _ _ _) rfl ?_
          exact ⟨rfl, ⟨_, HE.out, HD.out⟩, HT.out⟩
        have q1 : (I : Int) < (i : Int) - 1 := by omega
        obtain ⟨J, hJ⟩ : ∃ z : Nat, z = I + 1 := ⟨_, rfl⟩
        have jr : (I : Int) + 1 = (J : Int) := by omega
        have HN : Hid (∀ k, (if k = J then rotF Z a (a + 1) (I + 1) I else if k = I then rotF Z a (a + 1) (I + 1) J else rotF Z a (a + 1) (I + 1) k) = rotF Z a (a + 1) (I + 2) k) := by
          show ∀ k, _
          rw [hJ]
          exact rot_step ka
        have iI : I < n := by omega
        have iJ : J < n := by omega
        have nIJ : I ≠ J := by omega
        have jI : (I : Int) < (n : Int) := by omega
        have jJ : (J : Int) < (n : Int) := by omega
        obtain ⟨U, hU⟩ : ∃ U, rotF Z a (a + 1) (I + 1) = U := ⟨_, rfl⟩
        rw [hU] at HD HN
        clear hU hJ
        rename World => ws
        go_upto_region 11 with fail
        refine wp_region_held_drew (S := fun w' => True) (by kernel_rfl) ?_ (fun hHeld => ?_)
        · trivial
        obtain ⟨x0, hv0⟩ : ∃ z, z = ws.drew := ⟨_, rfl⟩
        try rw [← hv0] at hHeld
        rw [← hv0]
        have bv0 : Below ws.heap.size ws x0 := by rw [hv0]; exact Below.drew (Below.refl _ _)
        clear hv0
        replace HD : Hid (DatF x0 B n U) := HD.out.below bv0
        replace HT : Hid (Turn (fun q => q = B) w x0) := HT.out.trans (Turn.grown bv0)
        clear bv0
        refine wpAnyH_take (i := 0) (v := .slice (some ⟨B, 0, none⟩) n cp) rfl (by kernel_rfl) (by kernel_rfl) (by kernel_rfl) (fun _ _ _ h => h) (Or.inl ⟨by kernel_rfl, ?_⟩) hHeld ?_
        · intro w' hSw
          first | (go_simp; done) | (go_simp; with_reducible rfl) | (go_simp; rw [IntKind.wrap_i64]; omega) | (go_simp; omega)
        simp only [Act.put, List.setIfInBounds_toArray, List.set_cons_zero, List.set_cons_succ]
        refine wpAnyH_take (i := 1) (v := .int .i64 (I : Int)) rfl (by kernel_rfl) (by kernel_rfl) (by kernel_rfl) (fun _ _ _ h => h) (Or.inl ⟨by kernel_rfl, ?_⟩) hHeld ?_
        · intro w' hSw
          first | (go_simp; done) | (go_simp; with_reducible rfl) | (go_simp; rw [IntKind.wrap_i64]; omega) | (go_simp; omega)
        simp only [Act.put, List.setIfInBounds_toArray, List.set_cons_zero, List.set_cons_succ]
        refine wpAnyH_take (i := 2) (v := .slice (some ⟨B, 0, none⟩) n cp) rfl (by kernel_rfl) (by kernel_rfl) (by kernel_rfl) (fun _ _ _ h => h) (Or.inl ⟨by kernel_rfl, ?_⟩) hHeld ?_
        · intro w' hSw
          first | (go_simp; done) | (go_simp; with_reducible rfl) | (go_simp; rw [IntKind.wrap_i64]; omega) | (go_simp; omega)
        simp only [Act.put, List.setIfInBounds_toArray, List.set_cons_zero, List.set_cons_succ]
        refine wpAnyH_take (i := 3) (v := .int .i64 (I : Int)) rfl (by kernel_rfl) (by kernel_rfl) (by kernel_rfl) (fun _ _ _ h => h) (Or.inl ⟨by kernel_rfl, ?_⟩) hHeld ?_
        · intro w' hSw
          first | (go_simp; done) | (go_simp; with_reducible rfl) | (go_simp; rw [IntKind.wrap_i64]; omega) | (go_simp; omega)
        simp only [Act.put, List.setIfInBounds_toArray, List.set_cons_zero, List.set_cons_succ]
        refine wpAnyH_take (i := 4) (v := .int .i64 (J : Int)) rfl (by kernel_rfl) (by kernel_rfl) (by kernel_rfl) (fun _ _ _ h => h) (Or.inl ⟨by kernel_rfl, ?_⟩) hHeld ?_
        · intro w' hSw
          first | (go_simp; done) | (go_simp; with_reducible rfl) | (go_simp; rw [IntKind.wrap_i64]; omega) | (go_simp; omega)
        simp only [Act.put, List.setIfInBounds_toArray, List.set_cons_zero, List.set_cons_succ]
        refine wpAnyH_take (i := 5) (v := .slice (some ⟨B, 0, none⟩) n cp) rfl (by kernel_rfl) (by kernel_rfl) (by kernel_rfl) (fun _ _ _ h => h) (Or.inl ⟨by kernel_rfl, ?_⟩) hHeld ?_
        · intro w' hSw
          first | (go_simp; done) | (go_simp; with_reducible rfl) | (go_simp; rw [IntKind.wrap_i64]; omega) | (go_simp; omega)
        simp only [Act.put, List.setIfInBounds_toArray, List.set_cons_zero, List.set_cons_succ]
        refine wpAnyH_take (i := 6) (v := .int .i64 (I : Int)) rfl (by kernel_rfl) (by kernel_rfl) (by kernel_rfl) (fun _ _ _ h => h) (Or.inl ⟨by kernel_rfl, ?_⟩) hHeld ?_
        · intro w' hSw
          first | (go_simp; done) | (go_simp; with_reducible rfl) | (go_simp; rw [IntKind.wrap_i64]; omega) | (go_simp; omega)
        simp only [Act.put, List.setIfInBounds_toArray, List.set_cons_zero, List.set_cons_succ]
        refine wpAnyH_take (i := 7) (v := .int .i64 (J : Int)) rfl (by kernel_rfl) (by kernel_rfl) (by kernel_rfl) (fun _ _ _ h => h) (Or.inl ⟨by kernel_rfl, ?_⟩) hHeld ?_
        · intro w' hSw
          first | (go_simp; done) | (go_simp; with_reducible rfl) | (go_simp; rw [IntKind.wrap_i64]; omega) | (go_simp; omega)
        simp only [Act.put, List.setIfInBounds_toArray, List.set_cons_zero, List.set_cons_succ]
        refine wpAnyH_take (i := 8) (v := .pointer (some ⟨B, J, none⟩)) rfl (by kernel_rfl) (by kernel_rfl) (by kernel_rfl) (fun _ _ _ h => h) (Or.inl ⟨by kernel_rfl, ?_⟩) hHeld ?_
        · intro w' hSw
          first | (go_simp; done) | (go_simp; with_reducible rfl) | (go_simp; rw [IntKind.wrap_i64]; omega) | (go_simp; omega)
        simp only [Act.put, List.setIfInBounds_toArray, List.set_cons_zero, List.set_cons_succ]
        refine wpAnyH_take (i := 10) (v := .slice (some ⟨B, 0, none⟩) n cp) rfl (by kernel_rfl) (by kernel_rfl) (by kernel_rfl) (fun _ _ _ h => h) (Or.inl ⟨by kernel_rfl, ?_⟩) hHeld ?_
        · intro w' hSw
          first | (go_simp; done) | (go_simp; with_reducible rfl) | (go_simp; rw [IntKind.wrap_i64]; omega) | (go_simp; omega)
        simp only [Act.put, List.setIfInBounds_toArray, List.set_cons_zero, List.set_cons_succ]
        refine wpAnyH_take (i := 11) (v := .int .i64 (I : Int)) rfl (by kernel_rfl) (by kernel_rfl) (by kernel_rfl) (fun _ _ _ h => h) (Or.inl ⟨by kernel_rfl, ?_⟩) hHeld ?_
        · intro w' hSw
          first | (go_simp; done) | (go_simp; with_reducible rfl) | (go_simp; rw [IntKind.wrap_i64]; omega) | (go_simp; omega)
        simp only [Act.put, List.setIfInBounds_toArray, List.set_cons_zero, List.set_cons_succ]
        refine wpAnyH_take (i := 12) (v := .pointer (some ⟨B, I, none⟩)) rfl (by kernel_rfl) (by kernel_rfl) (by kernel_rfl) (fun _ _ _ h => h) (Or.inl ⟨by kernel_rfl, ?_⟩) hHeld ?_
        · intro w' hSw
          first | (go_simp; done) | (go_simp; with_reducible rfl) | (go_simp; rw [IntKind.wrap_i64]; omega) | (go_simp; omega)
        simp only [Act.put, List.setIfInBounds_toArray, List.set_cons_zero, List.set_cons_succ]
        refine wpAnyH_ready (rs := [9, 13]) (by kernel_rfl) (by simp) ?_
        refine (AllReadyH.cons rfl (fun KK hK => ?_) (AllReadyH.cons rfl (fun KK hK => ?_) AllReadyH.nil))
        · have hl_ : x0.cell? ⟨B, J, none⟩ = some (.int .u32 (U J)) := HD.out.2.2 J iJ
          go_simp
          clear hl_
          refine hK.out _ _ (trivial) (fun hHeld => ?_)
          clear hK KK
          refine wpAnyH_ready (rs := [13]) (by kernel_rfl) (by simp) ?_
          refine (AllReadyH.cons rfl (fun KK hK => ?_) AllReadyH.nil)
          have hl_ : x0.cell? ⟨B, I, none⟩ = some (.int .u32 (U I)) := HD.out.2.2 I iI
          go_simp
          clear hl_
          refine hK.out _ _ (trivial) (fun hHeld => ?_)
          clear hK KK
          refine wpAnyH_take (i := 14) (v := .pointer (some ⟨B, I, none⟩)) rfl (by kernel_rfl) (by kernel_rfl) (by kernel_rfl) (fun _ _ _ h => h) (Or.inl ⟨by kernel_rfl, ?_⟩) hHeld ?_
          · intro w' hSw
            first | (go_simp; done) | (go_simp; with_reducible rfl) | (go_simp; rw [IntKind.wrap_i64]; omega) | (go_simp; omega)
          simp only [Act.put, List.setIfInBounds_toArray, List.set_cons_zero, List.set_cons_succ]
          refine wpAnyH_ready (rs := [15]) (by kernel_rfl) (by simp) ?_
          refine (AllReadyH.cons rfl (fun KK hK => ?_) AllReadyH.nil)
          have hl_ : x0.cell? ⟨B, I, none⟩ = some (.int .u32 (U I)) := HD.out.2.2 I iI
          have hf_ : x0.frozen? ⟨B, I, none⟩ = false := HD.out.2.1 I
          go_simp
          obtain ⟨x0_3, hv_⟩ : ∃ z, x0.setCell ⟨B, I, none⟩ (.int .u32 (U J)) = z := ⟨_, rfl⟩
          rw [hv_]
          have hl2 : x0_3.cell? ⟨B, J, none⟩ = some (.int .u32 (U J)) := by rw [← hv_, World.cell?_setCell_other _ _ _ _ (by intro q; injection q with q1 q2 q3; omega)]; exact HD.out.2.2 J iJ
          have hf2 : x0_3.frozen? ⟨B, J, none⟩ = false := by rw [← hv_]; simp [go_sem, HD.out.2.1]
          clear hl_ hf_
          refine hK.out _ _ (trivial) (fun hHeld => ?_)
          clear hK KK
          refine wpAnyH_take (i := 16) (v := .pointer (some ⟨B, J, none⟩)) rfl (by kernel_rfl) (by kernel_rfl) (by kernel_rfl) (fun _ _ _ h => h) (Or.inl ⟨by kernel_rfl, ?_⟩) hHeld ?_
          · intro w' hSw
            first | (go_simp; done) | (go_simp; with_reducible rfl) | (go_simp; rw [IntKind.wrap_i64]; omega) | (go_simp; omega)
          simp only [Act.put, List.setIfInBounds_toArray, List.set_cons_zero, List.set_cons_succ]
          refine wpAnyH_ready (rs := [17]) (by kernel_rfl) (by simp) ?_
          refine (AllReadyH.cons rfl (fun KK hK => ?_) AllReadyH.nil)
          go_simp
          have HD2 : Hid (DatF (x0_3.setCell ⟨B, J, none⟩ (.int .u32 (U I))) B n (fun k => if k = J then U I else if k = I then U J else U k)) := by show DatF _ _ _ _; rw [← hv_]; exact HD.out.swap iI iJ nIJ
          have HT2 : Hid (Turn (fun q => q = B) w (x0_3.setCell ⟨B, J, none⟩ (.int .u32 (U I)))) := by show Turn _ _ _; rw [← hv_]; exact HT.out.trans ((Turn.of (S := fun q => q = B) (Beside.setCell B _ _ _) rfl).trans (Turn.of (S := fun q => q = B) (Beside.setCell B _ _ _) rfl))
          obtain ⟨x0_4, hv2⟩ : ∃ z, x0_3.setCell ⟨B, J, none⟩ (.int .u32 (U I)) = z := ⟨_, rfl⟩
          rw [hv2] at HD2 HT2 ⊢
          clear hv2 hv_ hl2 hf2 HD HT
          refine hK.out _ _ (trivial) (fun hHeld => ?_)
          clear hK KK
          refine wpAnyH_done (by kernel_rfl) ?_ _
          clear hHeld
          replace HD2 := HD2.out.congr (fun k _ => HN.out k)
          go_wp2
          go_roundw
          case rel => exact ⟨I + 1, by omega, by omega, by go_num, HD2, HT2⟩
          case measure => first | (simp [intOf]; done) | (simp [intOf]; omega)
        · have hl_ : x0.cell? ⟨B, I, none⟩ = some (.int .u32 (U I)) := HD.out.2.2 I iI
          go_simp
          clear hl_
          refine hK.out _ _ (trivial) (fun hHeld => ?_)
          clear hK KK
          refine wpAnyH_ready (rs := [9]) (by kernel_rfl) (by simp) ?_
          refine (AllReadyH.cons rfl (fun KK hK => ?_) AllReadyH.nil)
          have hl_ : x0.cell? ⟨B, J, none⟩ = some (.int .u32 (U J)) := HD.out.2.2 J iJ
          go_simp
          clear hl_
          refine hK.out _ _ (trivial) (fun hHeld => ?_)
          clear hK KK
          refine wpAnyH_take (i := 14) (v := .pointer (some ⟨B, I, none⟩)) rfl (by kernel_rfl) (by kernel_rfl) (by kernel_rfl) (fun _ _ _ h => h) (Or.inl ⟨by kernel_rfl, ?_⟩) hHeld ?_
          · intro w' hSw
            first | (go_simp; done) | (go_simp; with_reducible rfl) | (go_simp; rw [IntKind.wrap_i64]; omega) | (go_simp; omega)
          simp only [Act.put, List.setIfInBounds_toArray, List.set_cons_zero, List.set_cons_succ]
          refine wpAnyH_ready (rs := [15]) (by kernel_rfl) (by simp) ?_
          refine (AllReadyH.cons rfl (fun KK hK => ?_) AllReadyH.nil)
          have hl_ : x0.cell? ⟨B, I, none⟩ = some (.int .u32 (U I)) := HD.out.2.2 I iI
          have hf_ : x0.frozen? ⟨B, I, none⟩ = false := HD.out.2.1 I
          go_simp
          obtain ⟨x0_7, hv_⟩ : ∃ z, x0.setCell ⟨B, I, none⟩ (.int .u32 (U J)) = z := ⟨_, rfl⟩
          rw [hv_]
          have hl2 : x0_7.cell? ⟨B, J, none⟩ = some (.int .u32 (U J)) := by rw [← hv_, World.cell?_setCell_other _ _ _ _ (by intro q; injection q with q1 q2 q3; omega)]; exact HD.out.2.2 J iJ
          have hf2 : x0_7.frozen? ⟨B, J, none⟩ = false := by rw [← hv_]; simp [go_sem, HD.out.2.1]
          clear hl_ hf_
          refine hK.out _ _ (trivial) (fun hHeld => ?_)
          clear hK KK
          refine wpAnyH_take (i := 16) (v := .pointer (some ⟨B, J, none⟩)) rfl (by kernel_rfl) (by kernel_rfl) (by kernel_rfl) (fun _ _ _ h => h) (Or.inl ⟨by kernel_rfl, ?_⟩) hHeld ?_
          · intro w' hSw
            first | (go_simp; done) | (go_simp; with_reducible rfl) | (go_simp; rw [IntKind.wrap_i64]; omega) | (go_simp; omega)
          simp only [Act.put, List.setIfInBounds_toArray, List.set_cons_zero, List.set_cons_succ]
          refine wpAnyH_ready (rs := [17]) (by kernel_rfl) (by simp) ?_
          refine (AllReadyH.cons rfl (fun KK hK => ?_) AllReadyH.nil)
          go_simp
          have HD2 : Hid (DatF (x0_7.setCell ⟨B, J, none⟩ (.int .u32 (U I))) B n (fun k => if k = J then U I else if k = I then U J else U k)) := by show DatF _ _ _ _; rw [← hv_]; exact HD.out.swap iI iJ nIJ
          have HT2 : Hid (Turn (fun q => q = B) w (x0_7.setCell ⟨B, J, none⟩ (.int .u32 (U I)))) := by show Turn _ _ _; rw [← hv_]; exact HT.out.trans ((Turn.of (S := fun q => q = B) (Beside.setCell B _ _ _) rfl).trans (Turn.of (S := fun q => q = B) (Beside.setCell B _ _ _) rfl))
          obtain ⟨x0_8, hv2⟩ : ∃ z, x0_7.setCell ⟨B, J, none⟩ (.int .u32 (U I)) = z := ⟨_, rfl⟩
          rw [hv2] at HD2 HT2 ⊢
          clear hv2 hv_ hl2 hf2 HD HT
          refine hK.out _ _ (trivial) (fun hHeld => ?_)
          clear hK KK
          refine wpAnyH_done (by kernel_rfl) ?_ _
          clear hHeld
          replace HD2 := HD2.out.congr (fun k _ => HN.out k)
          go_wp2
          go_roundw
          case rel => exact ⟨I + 1, by omega, by omega, by go_num, HD2, HT2⟩
          case measure => first | (simp [intOf]; done) | (simp [intOf]; omega)
end Go.Proofs.Ytpaiajeigdifcaa
