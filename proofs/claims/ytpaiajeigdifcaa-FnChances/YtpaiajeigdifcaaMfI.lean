/-
What is proved: slices' own insertion sort at sets, any part of a list.
-/
import Derived.Test.YtpaiajeigdifcaaMfR
import Derived.Deep.RegionHeldLaw
import Derived.Deep.DeepCutAuto
namespace Go.Proofs.Ytpaiajeigdifcaa
set_option maxRecDepth 40000
open Go.ChangeShapes Go.WideShapes Go.ChangeAt Go.RowKit
set_option linter.unusedVariables false
set_option linter.unusedSimpArgs false

/-- What the comparing function keeps to: asked of a later one and an earlier one, whether the later goes ahead. -/
def CmpK (Ok : Int → Prop) (Cap : World → Prop) (lt : Int → Int → Prop) (c1 c2 : Value) : Prop := ∀ (w : World) (x y : Int), Cap w → Ok x → Ok y → x < y → Calls Try.prog 82 #[.int .u32 y, .int .u32 x] w fun e w' => ∃ c, (e = .returned (.int .i64 c)) ∧ (c < 0 ↔ lt y x) ∧ Below w.heap.size w w'
def CapK (B : Nat) (Cap : World → Prop) : Prop := ∀ w w', Cap w → Turn (fun q => q = B) w w' → Cap w'
theorem ok_same {Ok : Int → Prop} {V W : Nat → Int} {a b n : Nat} (h : ∀ k, k < n → Ok (V k)) (s : SameS V W a b) (o : OutS V W a b) (hb : b ≤ n) : ∀ k, k < n → Ok (W k) := fun k hk => by
  by_cases q : a ≤ k ∧ k < b
  · obtain ⟨j, h1, h2, e⟩ := s.1 k q.1 q.2
    rw [e]; exact h j (by omega)
  · rw [o k (by omega)]; exact h k hk
/-- The insertion's outer state. -/
def InsO (lt : Int → Int → Prop) (V W : Nat → Int) (a i : Nat) : Prop := SortS lt W a i ∧ SameS V W a i ∧ OutS V W a i ∧ (i = a + 1 → W = V)
def InsI (lt : Int → Int → Prop) (W : Nat → Int) (i j : Nat) : Prop := ∀ k, j ≤ k → k < i → lt (W i) (W k)
theorem insO_zero (lt : Int → Int → Prop) (V : Nat → Int) (a : Nat) : InsO lt V V a (a + 1) := ⟨SortS.one lt V (Nat.le_refl _), SameS.refl _ _ _, OutS.refl _ _ _, fun _ => rfl⟩
theorem insI_zero (lt : Int → Int → Prop) (W : Nat → Int) (i : Nat) : InsI lt W i i := fun k h1 h2 => by omega
theorem insI_on {lt : Int → Int → Prop} {W : Nat → Int} {i j : Nat} (h : InsI lt W i (j + 1)) (h2 : lt (W i) (W j)) : InsI lt W i j := fun k g1 g2 => by
  by_cases q : k = j
  · rw [q]; exact h2
  · exact h k (by omega) g2
/-- One put where it belongs among the sorted ones ahead of it. -/
theorem ins_right {lt : Int → Int → Prop} (tr : ∀ x y z, lt x y → lt y z → lt x z) {V : Nat → Int} {a j m : Nat} (h1 : a ≤ j) (h2 : j ≤ m) (hS : SortS lt V a m) (hI : InsI lt V m j) (hc : j = a ∨ lt (V (j - 1)) (V m)) : SortS lt (rotF V j m (m + 1)) a (m + 1) := fun p q g1 g2 g3 => by
  have low : ∀ k, a ≤ k → k < j → lt (V k) (V m) := fun k k1 k2 => by
    rcases hc with e | c
    · omega
    · by_cases z : k = j - 1
      · rw [z]; exact c
      · exact tr _ _ _ (hS k (j - 1) k1 (by omega) (by omega)) c
  have o := rot_out V h2 (Nat.le_succ m)
  by_cases p1 : p < j
  · rw [o p (Or.inl p1)]
    by_cases q1 : q < j
    · rw [o q (Or.inl q1)]; exact hS p q g1 g2 (by omega)
    · by_cases q2 : q = j
      · rw [rot_A V h2 (Nat.le_succ m) (by omega) (by omega), show q - j + m = m by omega]; exact low p g1 p1
      · rw [rot_B V h2 (Nat.le_succ m) (by omega) g3]; exact hS p _ g1 (by omega) (by omega)
  · by_cases p2 : p = j
    · rw [rot_A V h2 (Nat.le_succ m) (by omega) (by omega), show p - j + m = m by omega, rot_B V h2 (Nat.le_succ m) (by omega) g3]; exact hI _ (by omega) (by omega)
    · rw [rot_B V h2 (Nat.le_succ m) (by omega) (by omega), rot_B V h2 (Nat.le_succ m) (by omega) g3]; exact hS _ _ (by omega) (by omega) (by omega)
theorem ins_left {lt : Int → Int → Prop} (tr : ∀ x y z, lt x y → lt y z → lt x z) {V : Nat → Int} {a i b : Nat} (h1 : a + 1 ≤ i) (h2 : i ≤ b) (hS : SortS lt V (a + 1) b) (hl : a + 1 < i → lt (V (i - 1)) (V a)) (hc : i < b → lt (V a) (V i)) : SortS lt (rotF V a (a + 1) i) a b := fun p q g1 g2 g3 => by
  have low : ∀ k, a + 1 ≤ k → k < i → lt (V k) (V a) := fun k k1 k2 => by
    have c := hl (by omega)
    by_cases z : k = i - 1
    · rw [z]; exact c
    · exact tr _ _ _ (hS k (i - 1) k1 (by omega) (by omega)) c
  have hig : ∀ k, i ≤ k → k < b → lt (V a) (V k) := fun k k1 k2 => by
    have c := hc (by omega)
    by_cases z : k = i
    · rw [z]; exact c
    · exact tr _ _ _ c (hS i k h1 (by omega) k2)
  have o := rot_out V (Nat.le_succ a) h1
  by_cases p1 : p < a + (i - (a + 1))
  · rw [rot_A V (Nat.le_succ a) h1 g1 p1]
    by_cases q1 : q < a + (i - (a + 1))
    · rw [rot_A V (Nat.le_succ a) h1 (by omega) q1]; exact hS _ _ (by omega) (by omega) (by omega)
    · by_cases q2 : q < i
      · rw [rot_B V (Nat.le_succ a) h1 (by omega) q2, show q - (i - (a + 1)) = a by omega]; exact low _ (by omega) (by omega)
      · rw [o q (Or.inr (by omega))]; exact hS _ _ (by omega) (by omega) g3
  · by_cases p2 : p < i
    · rw [rot_B V (Nat.le_succ a) h1 (by omega) p2, show p - (i - (a + 1)) = a by omega, o q (Or.inr (by omega))]; exact hig q (by omega) g3
    · rw [o p (Or.inr (by omega)), o q (Or.inr (by omega))]; exact hS _ _ (by omega) g2 g3
theorem ins_close {lt : Int → Int → Prop} (tr : ∀ x y z, lt x y → lt y z → lt x z) {V W : Nat → Int} {a i j : Nat} (h : InsO lt V W a i) (hi : a + 1 ≤ i) (h1 : a ≤ j) (h2 : j ≤ i) (hI : InsI lt W i j) (hc : j = a ∨ lt (W (j - 1)) (W i)) : InsO lt V (rotF W j i (i + 1)) a (i + 1) := by
  obtain ⟨a1, a2, a3, _⟩ := h
  have o := rot_out W h2 (Nat.le_succ i)
  exact ⟨ins_right tr h1 h2 a1 hI hc, (a2.sub a3 (Nat.le_refl _) (Nat.le_succ i) (by omega)).trans ((rot_sameS W h2 (Nat.le_succ i)).sub o h1 (Nat.le_refl _) (by omega)), (a3.wide (Nat.le_refl _) (Nat.le_succ i)).trans (o.wide h1 (Nat.le_refl _)), fun e => by omega⟩
theorem ins_low {lt : Int → Int → Prop} {V W : Nat → Int} {a i b : Nat} (h : InsO lt V W a i) (hA : SortS (· < ·) V a b) (hi : i < b) (h1 : a ≤ i) : ∀ k, a ≤ k → k < i → W k < W i := fun k k1 k2 => by
  obtain ⟨_, a2, a3, _⟩ := h
  obtain ⟨j, g1, g2, e⟩ := a2.1 k k1 k2
  rw [e, a3 i (Or.inr (Nat.le_refl _))]
  exact hA j i g1 g2 hi
theorem ins_out {lt : Int → Int → Prop} {V W : Nat → Int} {a i b : Nat} (h : InsO lt V W a i) (hb : a ≤ b) (h1 : b ≤ i) (h2 : i ≤ b ∨ i = a + 1) : SortS lt W a b ∧ SameS V W a b ∧ OutS V W a b := by
  by_cases q : i = b
  · subst q; exact ⟨h.1, h.2.1, h.2.2.1⟩
  · have e := h.2.2.2 (by omega)
    subst e
    exact ⟨SortS.one lt _ (by omega), SameS.refl _ _ _, OutS.refl _ _ _⟩
set_option maxRecDepth 20000 in
set_option maxHeartbeats 8000000 in
theorem insertion_any (B n cp : Nat) (c1 c2 : Value) (Ok : Int → Prop) (Cap : World → Prop) (lt : Int → Int → Prop) (tr : ∀ x y z, lt x y → lt y z → lt x z) (tot : ∀ x y, x < y → ¬ lt y x → lt x y) (hn : n ≤ 1000) (HM : Hid (CmpK Ok Cap lt c1 c2)) (HK : Hid (CapK B Cap)) (a b : Nat) (V : Nat → Int) (w : World) (h1 : a ≤ b) (h2 : b ≤ n) (HD : Hid (DatF w B n V)) (HC : Hid (Cap w)) (HA : Hid (SortS (· < ·) V a b)) (HO : Hid (∀ k, k < n → Ok (V k))) :
    Calls Try.prog 106 #[.slice (some ⟨B, 0, none⟩) n cp, .int .i64 (a : Int), .int .i64 (b : Int), .func (.func 82) #[] #[]] w fun e w' => (e = .returned (.tuple #[])) ∧ (∃ W, SortS lt W a b ∧ SameS V W a b ∧ OutS V W a b ∧ DatF w' B n W) ∧ Turn (fun q => q = B) w w' := by
  go_enter Try.func106, Try.ntmps106
  go_wp2_with fail
  go_loopw [8] (fun q wr => ∃ (i : Nat) (W : Nat → Int), a + 1 ≤ i ∧ (i ≤ b ∨ i = a + 1) ∧ q = .int .i64 i ∧ Hid (InsO lt V W a i) ∧ Hid (DatF wr B n W) ∧ Hid (Turn (fun q => q = B) w wr)) (fun q _ => b - (intOf q).toNat)
  case atStart => exact ⟨a + 1, V, Nat.le_refl _, Or.inr rfl, by go_num, insO_zero lt V a, HD, Turn.refl _ _⟩
  case round =>
    clear HD
    obtain ⟨i, W, i1, i2, rfl, HS, HD, HT⟩ := hrel
    by_cases hi : i < b
    case neg =>
      have HE : Hid (SortS lt W a b ∧ SameS V W a b ∧ OutS V W a b) := ins_out HS.out h1 (by omega) i2
      have k1 : ¬ (i : Int) < (b : Int) := by omega
      have k2 : decide ((i : Int) < (b : Int)) = false := decide_eq_false k1
      go_wp2
      go_end0
      exact ⟨rfl, ⟨W, HE.out.1, HE.out.2.1, HE.out.2.2, HD.out⟩, HT.out⟩
    have k1 : (i : Int) < (b : Int) := by omega
    have HL : Hid (∀ k, a ≤ k → k < i → W k < W i) := ins_low HS.out HA.out hi (by omega)
    have HOW : Hid (∀ k, k < n → Ok (W k)) := ok_same HO.out HS.out.2.1 HS.out.2.2.1 (by omega)
    go_wp2_with fail
    go_loopw [9] (fun q wr => ∃ (j : Nat), a ≤ j ∧ j ≤ i ∧ q = .int .i64 j ∧ Hid (InsI lt W i j) ∧ Hid (DatF wr B n (rotF W j i (i + 1))) ∧ Hid (Turn (fun q => q = B) w wr)) (fun q _ => (intOf q).toNat)
    case atStart => exact ⟨i, by omega, Nat.le_refl _, rfl, insI_zero lt W i, by show DatF _ _ _ _; rw [rot_same W (Nat.le_refl _) (Nat.le_succ _) (Or.inl rfl)]; exact HD.out, HT⟩
    case round =>
      clear HD HT
      obtain ⟨I, ja, jb, rfl, HJ, HD, HT⟩ := hrel
      rename World => ws
      replace HC : Hid (Cap ws) := HK.out _ _ HC.out HT.out
      have HE : Hid (I = a ∨ lt (W (I - 1)) (W i) → InsO lt V (rotF W I i (i + 1)) a (i + 1)) := fun hc => ins_close tr HS.out i1 ja jb HJ.out hc
      have iI : I < n := by omega
      have jI : (I : Int) < (n : Int) := by omega
      by_cases jz : I = a
      case pos =>
        replace HE : Hid (InsO lt V (rotF W I i (i + 1)) a (i + 1)) := HE.out (Or.inl jz)
        have jf : decide ((a : Int) < (I : Int)) = false := decide_eq_false (by omega)
        have jf2 : (I : Int) ≤ (a : Int) := by omega
        obtain ⟨Z, hZ⟩ : ∃ Z, rotF W I i (i + 1) = Z := ⟨_, rfl⟩
        rw [hZ] at HD HE
        obtain ⟨J, hJ⟩ : ∃ J, J = I := ⟨_, rfl⟩
        have iJ : J < n := by omega
        have zb : B < ws.heap.size := HD.out.1
        have dI := HD.out.2.2 I iI
        have dJ := HD.out.2.2 J iJ
        clear hZ hJ jz HJ HS HL HOW
        go_upto_region 4 with fail
        refine wp_region_held_drew (S := fun w' => w'.cell? ⟨B, I, none⟩ = some (.int .u32 (Z I)) ∧ w'.cell? ⟨B, J, none⟩ = some (.int .u32 (Z J))) (by kernel_rfl) ?_ (fun hHeld => ?_)
        · exact ⟨((Below.drew (Below.refl _ _) : Below ws.heap.size ws ws.drew).cell (p := ⟨B, I, none⟩) zb).trans dI, ((Below.drew (Below.refl _ _) : Below ws.heap.size ws ws.drew).cell (p := ⟨B, J, none⟩) zb).trans dJ⟩
        obtain ⟨u0, hv0⟩ : ∃ z, z = ws.drew := ⟨_, rfl⟩
        try rw [← hv0] at hHeld
        rw [← hv0]
        have bv0 : Below ws.heap.size ws u0 := by rw [hv0]; exact Below.drew (Below.refl _ _)
        clear hv0
        replace HD : Hid (DatF u0 B n Z) := HD.out.below bv0
        replace HT : Hid (Turn (fun q => q = B) w u0) := HT.out.trans (Turn.grown bv0)
        replace HC : Hid (Cap u0) := HK.out _ _ HC.out (Turn.grown bv0)
        clear bv0 dI dJ zb
        refine wpAnyH_take (i := 0) (v := .int .i64 (I : Int)) rfl (by kernel_rfl) (by kernel_rfl) (by kernel_rfl) (fun _ _ _ h => h) (Or.inl ⟨by kernel_rfl, ?_⟩) hHeld ?_
        · intro w' hSw
          obtain ⟨s0, s1⟩ := hSw
          first | (go_simp; done) | (go_simp; with_reducible rfl) | (go_simp; rw [IntKind.wrap_i64]; omega) | (go_simp; omega)
        simp only [Act.put, List.setIfInBounds_toArray, List.set_cons_zero, List.set_cons_succ]
        refine wpAnyH_take (i := 1) (v := .int .i64 (a : Int)) rfl (by kernel_rfl) (by kernel_rfl) (by kernel_rfl) (fun _ _ _ h => h) (Or.inl ⟨by kernel_rfl, ?_⟩) hHeld ?_
        · intro w' hSw
          obtain ⟨s0, s1⟩ := hSw
          first | (go_simp; done) | (go_simp; with_reducible rfl) | (go_simp; rw [IntKind.wrap_i64]; omega) | (go_simp; omega)
        simp only [Act.put, List.setIfInBounds_toArray, List.set_cons_zero, List.set_cons_succ]
        refine wpAnyH_take (i := 2) (v := .bool false) rfl (by kernel_rfl) (by kernel_rfl) (by kernel_rfl) (fun _ _ _ h => h) (Or.inl ⟨by kernel_rfl, ?_⟩) hHeld ?_
        · intro w' hSw
          obtain ⟨s0, s1⟩ := hSw
          first | (go_simp; done) | (go_simp; with_reducible rfl) | (go_simp; rw [IntKind.wrap_i64]; omega) | (go_simp; omega)
        simp only [Act.put, List.setIfInBounds_toArray, List.set_cons_zero, List.set_cons_succ]
        refine wpAnyH_take (i := 3) (v := .bool false) rfl (by kernel_rfl) (by kernel_rfl) (by kernel_rfl) (fun _ _ _ h => h) (Or.inl ⟨by kernel_rfl, ?_⟩) hHeld ?_
        · intro w' hSw
          obtain ⟨s0, s1⟩ := hSw
          first | (go_simp; done) | (go_simp; with_reducible rfl) | (go_simp; rw [IntKind.wrap_i64]; omega) | (go_simp; omega)
        simp only [Act.put, List.setIfInBounds_toArray, List.set_cons_zero, List.set_cons_succ]
        refine wpAnyH_take (i := 4) (v := undef) rfl (by kernel_rfl) (by kernel_rfl) (by kernel_rfl) (fun _ _ _ h => h) (Or.inr ⟨by kernel_rfl, rfl⟩) hHeld ?_
        simp only [Act.put, List.setIfInBounds_toArray, List.set_cons_zero, List.set_cons_succ]
        refine wpAnyH_take (i := 5) (v := undef) rfl (by kernel_rfl) (by kernel_rfl) (by kernel_rfl) (fun _ _ _ h => h) (Or.inr ⟨by kernel_rfl, rfl⟩) hHeld ?_
        simp only [Act.put, List.setIfInBounds_toArray, List.set_cons_zero, List.set_cons_succ]
        refine wpAnyH_take (i := 6) (v := undef) rfl (by kernel_rfl) (by kernel_rfl) (by kernel_rfl) (fun _ _ _ h => h) (Or.inr ⟨by kernel_rfl, rfl⟩) hHeld ?_
        simp only [Act.put, List.setIfInBounds_toArray, List.set_cons_zero, List.set_cons_succ]
        refine wpAnyH_take (i := 7) (v := undef) rfl (by kernel_rfl) (by kernel_rfl) (by kernel_rfl) (fun _ _ _ h => h) (Or.inr ⟨by kernel_rfl, rfl⟩) hHeld ?_
        simp only [Act.put, List.setIfInBounds_toArray, List.set_cons_zero, List.set_cons_succ]
        refine wpAnyH_take (i := 8) (v := undef) rfl (by kernel_rfl) (by kernel_rfl) (by kernel_rfl) (fun _ _ _ h => h) (Or.inr ⟨by kernel_rfl, rfl⟩) hHeld ?_
        simp only [Act.put, List.setIfInBounds_toArray, List.set_cons_zero, List.set_cons_succ]
        refine wpAnyH_take (i := 9) (v := undef) rfl (by kernel_rfl) (by kernel_rfl) (by kernel_rfl) (fun _ _ _ h => h) (Or.inr ⟨by kernel_rfl, rfl⟩) hHeld ?_
        simp only [Act.put, List.setIfInBounds_toArray, List.set_cons_zero, List.set_cons_succ]
        refine wpAnyH_take (i := 10) (v := undef) rfl (by kernel_rfl) (by kernel_rfl) (by kernel_rfl) (fun _ _ _ h => h) (Or.inr ⟨by kernel_rfl, rfl⟩) hHeld ?_
        simp only [Act.put, List.setIfInBounds_toArray, List.set_cons_zero, List.set_cons_succ]
        refine wpAnyH_take (i := 11) (v := undef) rfl (by kernel_rfl) (by kernel_rfl) (by kernel_rfl) (fun _ _ _ h => h) (Or.inr ⟨by kernel_rfl, rfl⟩) hHeld ?_
        simp only [Act.put, List.setIfInBounds_toArray, List.set_cons_zero, List.set_cons_succ]
        refine wpAnyH_take (i := 12) (v := undef) rfl (by kernel_rfl) (by kernel_rfl) (by kernel_rfl) (fun _ _ _ h => h) (Or.inr ⟨by kernel_rfl, rfl⟩) hHeld ?_
        simp only [Act.put, List.setIfInBounds_toArray, List.set_cons_zero, List.set_cons_succ]
        refine wpAnyH_take (i := 13) (v := undef) rfl (by kernel_rfl) (by kernel_rfl) (by kernel_rfl) (fun _ _ _ h => h) (Or.inr ⟨by kernel_rfl, rfl⟩) hHeld ?_
        simp only [Act.put, List.setIfInBounds_toArray, List.set_cons_zero, List.set_cons_succ]
        refine wpAnyH_take (i := 14) (v := undef) rfl (by kernel_rfl) (by kernel_rfl) (by kernel_rfl) (fun _ _ _ h => h) (Or.inr ⟨by kernel_rfl, rfl⟩) hHeld ?_
        simp only [Act.put, List.setIfInBounds_toArray, List.set_cons_zero, List.set_cons_succ]
        refine wpAnyH_take (i := 15) (v := undef) rfl (by kernel_rfl) (by kernel_rfl) (by kernel_rfl) (fun _ _ _ h => h) (Or.inr ⟨by kernel_rfl, rfl⟩) hHeld ?_
        simp only [Act.put, List.setIfInBounds_toArray, List.set_cons_zero, List.set_cons_succ]
        refine wpAnyH_ready (rs := [16]) (by kernel_rfl) (by simp) ?_
        refine AllReadyH.cons rfl (fun KK hK => ?_) AllReadyH.nil
        go_simp
        refine hK.out _ _ hHeld (fun hHeld => ?_)
        clear hK KK
        refine wpAnyH_done (by kernel_rfl) ?_ _
        clear hHeld
        go_wp2
        go_roundw
        case rel => exact ⟨i + 1, Z, by omega, Or.inl (by omega), by go_num, HE, HD, HT⟩
        case measure => first | (simp [intOf]; done) | (simp [intOf]; omega)
      obtain ⟨J, hJ⟩ : ∃ J, I = J + 1 := ⟨I - 1, by omega⟩
      have iJ : J < n := by omega
      have nIJ : I ≠ J := by omega
      have jJ : (J : Int) < (n : Int) := by omega
      have jp : decide ((a : Int) < (I : Int)) = true := decide_eq_true (by omega)
      have jp2 : (a : Int) < (I : Int) := by omega
      have jr : (I : Int) - 1 = (J : Int) := by omega
      have wr1 : IntKind.i64.wrap (J : Int) = (J : Int) := by rw [IntKind.wrap_i64]; omega
      have wr2 : IntKind.i64.wrap ((I : Int) - 1) = (J : Int) := by rw [IntKind.wrap_i64]; omega
      have zI : rotF W I i (i + 1) I = W i := by rw [rot_A W jb (Nat.le_succ i) (Nat.le_refl _) (by omega)]; exact vcong (by omega)
      have zJ : rotF W I i (i + 1) J = W J := rot_out W jb (Nat.le_succ i) J (Or.inl (by omega))
      have okI : Ok (rotF W I i (i + 1) I) := by rw [zI]; exact HOW.out i (by omega)
      have okJ : Ok (rotF W I i (i + 1) J) := by rw [zJ]; exact HOW.out J iJ
      have xlt : rotF W I i (i + 1) J < rotF W I i (i + 1) I := by rw [zI, zJ]; exact HL.out J (by omega) (by omega)
      have HN : Hid (∀ k, (if k = J then rotF W I i (i + 1) I else if k = I then rotF W I i (i + 1) J else rotF W I i (i + 1) k) = rotF W J i (i + 1) k) := by
        show ∀ k, _
        rw [hJ]
        exact rot_down (by omega)
      have HG : Hid (lt (rotF W I i (i + 1) I) (rotF W I i (i + 1) J) → InsI lt W i J) := fun q => by rw [zI, zJ] at q; exact insI_on (by rw [← hJ]; exact HJ.out) q
      replace HE : Hid (¬ lt (rotF W I i (i + 1) I) (rotF W I i (i + 1) J) → InsO lt V (rotF W I i (i + 1)) a (i + 1)) := fun q => HE.out (Or.inr (by rw [zI, zJ] at q; rw [show I - 1 = J by omega]; exact tot _ _ (HL.out J (by omega) (by omega)) q))
      have HIJ : Hid (a ≤ J ∧ J ≤ i ∧ I = J + 1) := ⟨by omega, by omega, hJ⟩
      clear zI zJ hJ jz
      obtain ⟨Z, hZ⟩ : ∃ Z, rotF W I i (i + 1) = Z := ⟨_, rfl⟩
      rw [hZ] at HD HE HN HG okI okJ xlt
      have zb : B < ws.heap.size := HD.out.1
      have dI := HD.out.2.2 I iI
      have dJ := HD.out.2.2 J iJ
      clear hZ HJ HS HL HOW
      by_cases hlt : lt (Z I) (Z J)
      case pos =>
        replace HG : Hid (InsI lt W i J) := HG.out hlt
        have HX : Hid (∀ W', Cap W' → Calls Try.prog 82 #[.int .u32 (Z I), .int .u32 (Z J)] W' fun e w'' => ∃ c, (e = .returned (.int .i64 c)) ∧ (decide (c < 0) = true) ∧ Below W'.heap.size W' w'') := fun W' hW => (HM.out W' (Z J) (Z I) hW okJ okI xlt).mono (fun e w'' ⟨c, h1, h2, h3⟩ => ⟨c, h1, decide_eq_true (h2.mpr hlt), h3⟩)
        clear HE hlt xlt okI okJ
        go_upto_region 4 with fail
        refine wp_region_held_drew (S := fun w' => w'.cell? ⟨B, I, none⟩ = some (.int .u32 (Z I)) ∧ w'.cell? ⟨B, J, none⟩ = some (.int .u32 (Z J))) (by kernel_rfl) ?_ (fun hHeld => ?_)
        · exact ⟨((Below.drew (Below.refl _ _) : Below ws.heap.size ws ws.drew).cell (p := ⟨B, I, none⟩) zb).trans dI, ((Below.drew (Below.refl _ _) : Below ws.heap.size ws ws.drew).cell (p := ⟨B, J, none⟩) zb).trans dJ⟩
        obtain ⟨u0, hv0⟩ : ∃ z, z = ws.drew := ⟨_, rfl⟩
        try rw [← hv0] at hHeld
        rw [← hv0]
        have bv0 : Below ws.heap.size ws u0 := by rw [hv0]; exact Below.drew (Below.refl _ _)
        clear hv0
        replace HD : Hid (DatF u0 B n Z) := HD.out.below bv0
        replace HT : Hid (Turn (fun q => q = B) w u0) := HT.out.trans (Turn.grown bv0)
        replace HC : Hid (Cap u0) := HK.out _ _ HC.out (Turn.grown bv0)
        clear bv0 dI dJ zb
        refine wpAnyH_take (i := 0) (v := .int .i64 (I : Int)) rfl (by kernel_rfl) (by kernel_rfl) (by kernel_rfl) (fun _ _ _ h => h) (Or.inl ⟨by kernel_rfl, ?_⟩) hHeld ?_
        · intro w' hSw
          obtain ⟨s0, s1⟩ := hSw
          first | (go_simp; done) | (go_simp; with_reducible rfl) | (go_simp; rw [IntKind.wrap_i64]; omega) | (go_simp; omega)
        simp only [Act.put, List.setIfInBounds_toArray, List.set_cons_zero, List.set_cons_succ]
        refine wpAnyH_take (i := 1) (v := .int .i64 (a : Int)) rfl (by kernel_rfl) (by kernel_rfl) (by kernel_rfl) (fun _ _ _ h => h) (Or.inl ⟨by kernel_rfl, ?_⟩) hHeld ?_
        · intro w' hSw
          obtain ⟨s0, s1⟩ := hSw
          first | (go_simp; done) | (go_simp; with_reducible rfl) | (go_simp; rw [IntKind.wrap_i64]; omega) | (go_simp; omega)
        simp only [Act.put, List.setIfInBounds_toArray, List.set_cons_zero, List.set_cons_succ]
        refine wpAnyH_take (i := 2) (v := .bool true) rfl (by kernel_rfl) (by kernel_rfl) (by kernel_rfl) (fun _ _ _ h => h) (Or.inl ⟨by kernel_rfl, ?_⟩) hHeld ?_
        · intro w' hSw
          obtain ⟨s0, s1⟩ := hSw
          first | (go_simp; done) | (go_simp; with_reducible rfl) | (go_simp; rw [IntKind.wrap_i64]; omega) | (go_simp; omega)
        simp only [Act.put, List.setIfInBounds_toArray, List.set_cons_zero, List.set_cons_succ]
        refine wpAnyH_take (i := 3) (v := .bool true) rfl (by kernel_rfl) (by kernel_rfl) (by kernel_rfl) (fun _ _ _ h => h) (Or.inl ⟨by kernel_rfl, ?_⟩) hHeld ?_
        · intro w' hSw
          obtain ⟨s0, s1⟩ := hSw
          first | (go_simp; done) | (go_simp; with_reducible rfl) | (go_simp; rw [IntKind.wrap_i64]; omega) | (go_simp; omega)
        simp only [Act.put, List.setIfInBounds_toArray, List.set_cons_zero, List.set_cons_succ]
        refine wpAnyH_take (i := 4) (v := .func (.func 82) #[] #[]) rfl (by kernel_rfl) (by kernel_rfl) (by kernel_rfl) (fun _ _ _ h => h) (Or.inl ⟨by kernel_rfl, ?_⟩) hHeld ?_
        · intro w' hSw
          obtain ⟨s0, s1⟩ := hSw
          first | (go_simp; done) | (go_simp; with_reducible rfl) | (go_simp; rw [IntKind.wrap_i64]; omega) | (go_simp; omega)
        simp only [Act.put, List.setIfInBounds_toArray, List.set_cons_zero, List.set_cons_succ]
        refine wpAnyH_take (i := 5) (v := .slice (some ⟨B, 0, none⟩) n cp) rfl (by kernel_rfl) (by kernel_rfl) (by kernel_rfl) (fun _ _ _ h => h) (Or.inl ⟨by kernel_rfl, ?_⟩) hHeld ?_
        · intro w' hSw
          obtain ⟨s0, s1⟩ := hSw
          first | (go_simp; done) | (go_simp; with_reducible rfl) | (go_simp; rw [IntKind.wrap_i64]; omega) | (go_simp; omega)
        simp only [Act.put, List.setIfInBounds_toArray, List.set_cons_zero, List.set_cons_succ]
        refine wpAnyH_take (i := 6) (v := .int .i64 (I : Int)) rfl (by kernel_rfl) (by kernel_rfl) (by kernel_rfl) (fun _ _ _ h => h) (Or.inl ⟨by kernel_rfl, ?_⟩) hHeld ?_
        · intro w' hSw
          obtain ⟨s0, s1⟩ := hSw
          first | (go_simp; done) | (go_simp; with_reducible rfl) | (go_simp; rw [IntKind.wrap_i64]; omega) | (go_simp; omega)
        simp only [Act.put, List.setIfInBounds_toArray, List.set_cons_zero, List.set_cons_succ]
        refine wpAnyH_take (i := 7) (v := .pointer (some ⟨B, I, none⟩)) rfl (by kernel_rfl) (by kernel_rfl) (by kernel_rfl) (fun _ _ _ h => h) (Or.inl ⟨by kernel_rfl, ?_⟩) hHeld ?_
        · intro w' hSw
          obtain ⟨s0, s1⟩ := hSw
          first | (go_simp; done) | (go_simp; with_reducible rfl) | (go_simp; rw [IntKind.wrap_i64]; omega) | (go_simp; omega)
        simp only [Act.put, List.setIfInBounds_toArray, List.set_cons_zero, List.set_cons_succ]
        refine wpAnyH_take (i := 8) (v := .int .u32 (Z I)) rfl (by kernel_rfl) (by kernel_rfl) (by kernel_rfl) (fun _ _ _ h => h) (Or.inl ⟨by kernel_rfl, ?_⟩) hHeld ?_
        · intro w' hSw
          obtain ⟨s0, s1⟩ := hSw
          first | (go_simp; done) | (go_simp; with_reducible rfl) | (go_simp; rw [IntKind.wrap_i64]; omega) | (go_simp; omega)
        simp only [Act.put, List.setIfInBounds_toArray, List.set_cons_zero, List.set_cons_succ]
        refine wpAnyH_take (i := 9) (v := .slice (some ⟨B, 0, none⟩) n cp) rfl (by kernel_rfl) (by kernel_rfl) (by kernel_rfl) (fun _ _ _ h => h) (Or.inl ⟨by kernel_rfl, ?_⟩) hHeld ?_
        · intro w' hSw
          obtain ⟨s0, s1⟩ := hSw
          first | (go_simp; done) | (go_simp; with_reducible rfl) | (go_simp; rw [IntKind.wrap_i64]; omega) | (go_simp; omega)
        simp only [Act.put, List.setIfInBounds_toArray, List.set_cons_zero, List.set_cons_succ]
        refine wpAnyH_take (i := 10) (v := .int .i64 (I : Int)) rfl (by kernel_rfl) (by kernel_rfl) (by kernel_rfl) (fun _ _ _ h => h) (Or.inl ⟨by kernel_rfl, ?_⟩) hHeld ?_
        · intro w' hSw
          obtain ⟨s0, s1⟩ := hSw
          first | (go_simp; done) | (go_simp; with_reducible rfl) | (go_simp; rw [IntKind.wrap_i64]; omega) | (go_simp; omega)
        simp only [Act.put, List.setIfInBounds_toArray, List.set_cons_zero, List.set_cons_succ]
        refine wpAnyH_take (i := 11) (v := .int .i64 (J : Int)) rfl (by kernel_rfl) (by kernel_rfl) (by kernel_rfl) (fun _ _ _ h => h) (Or.inl ⟨by kernel_rfl, ?_⟩) hHeld ?_
        · intro w' hSw
          obtain ⟨s0, s1⟩ := hSw
          first | (go_simp; done) | (go_simp; with_reducible rfl) | (go_simp; rw [IntKind.wrap_i64]; omega) | (go_simp; omega)
        simp only [Act.put, List.setIfInBounds_toArray, List.set_cons_zero, List.set_cons_succ]
        refine wpAnyH_take (i := 12) (v := .pointer (some ⟨B, J, none⟩)) rfl (by kernel_rfl) (by kernel_rfl) (by kernel_rfl) (fun _ _ _ h => h) (Or.inl ⟨by kernel_rfl, ?_⟩) hHeld ?_
        · intro w' hSw
          obtain ⟨s0, s1⟩ := hSw
          first | (go_simp; done) | (go_simp; with_reducible rfl) | (go_simp; rw [IntKind.wrap_i64]; omega) | (go_simp; omega)
        simp only [Act.put, List.setIfInBounds_toArray, List.set_cons_zero, List.set_cons_succ]
        refine wpAnyH_take (i := 13) (v := .int .u32 (Z J)) rfl (by kernel_rfl) (by kernel_rfl) (by kernel_rfl) (fun _ _ _ h => h) (Or.inl ⟨by kernel_rfl, ?_⟩) hHeld ?_
        · intro w' hSw
          obtain ⟨s0, s1⟩ := hSw
          first | (go_simp; done) | (go_simp; with_reducible rfl) | (go_simp; rw [IntKind.wrap_i64]; omega) | (go_simp; omega)
        simp only [Act.put, List.setIfInBounds_toArray, List.set_cons_zero, List.set_cons_succ]
        refine wpAnyH_ready (rs := [14]) (by kernel_rfl) (by simp) ?_
        refine (AllReadyH.cons rfl (fun KK hK => ?_) AllReadyH.nil)
        go_simp
        go_wp2_with fail
        refine (HX.out _ HC.out).mono ?_
        rintro e u0_1 ⟨c, rfl, hc, h6⟩
        replace HD : Hid (DatF u0_1 B n Z) := HD.out.below h6
        replace HT : Hid (Turn (fun q => q = B) w u0_1) := HT.out.trans (Turn.grown h6)
        replace HC : Hid (Cap u0_1) := HK.out _ _ HC.out (Turn.grown h6)
        clear h6
        have dI := HD.out.2.2 I iI
        have dJ := HD.out.2.2 J iJ
        refine hK.out _ _ (⟨dI, dJ⟩) (fun hHeld => ?_)
        clear hK KK
        refine wpAnyH_take (i := 15) (v := .bool true) rfl (by kernel_rfl) (by kernel_rfl) (by kernel_rfl) (fun _ _ _ h => h) (Or.inl ⟨by kernel_rfl, ?_⟩) hHeld ?_
        · intro w' hSw
          obtain ⟨s0, s1⟩ := hSw
          first | (go_simp; done) | (go_simp; with_reducible rfl) | (go_simp; rw [IntKind.wrap_i64]; omega) | (go_simp; omega)
        simp only [Act.put, List.setIfInBounds_toArray, List.set_cons_zero, List.set_cons_succ]
        refine wpAnyH_ready (rs := [16]) (by kernel_rfl) (by simp) ?_
        refine AllReadyH.cons rfl (fun KK hK => ?_) AllReadyH.nil
        go_simp
        refine hK.out _ _ hHeld (fun hHeld => ?_)
        clear hK KK
        refine wpAnyH_done (by kernel_rfl) ?_ _
        clear hHeld
        clear hc dI dJ HX
        go_upto_region 6 with fail
        refine wp_region_held_drew (S := fun w' => True) (by kernel_rfl) ?_ (fun hHeld => ?_)
        · trivial
        obtain ⟨x0, hv0⟩ : ∃ z, z = u0_1.drew := ⟨_, rfl⟩
        try rw [← hv0] at hHeld
        rw [← hv0]
        have bv0 : Below u0_1.heap.size u0_1 x0 := by rw [hv0]; exact Below.drew (Below.refl _ _)
        clear hv0
        replace HD : Hid (DatF x0 B n Z) := HD.out.below bv0
        replace HT : Hid (Turn (fun q => q = B) w x0) := HT.out.trans (Turn.grown bv0)
        clear bv0
        refine wpAnyH_take (i := 0) (v := .slice (some ⟨B, 0, none⟩) n cp) rfl (by kernel_rfl) (by kernel_rfl) (by kernel_rfl) (fun _ _ _ h => h) (Or.inl ⟨by kernel_rfl, ?_⟩) hHeld ?_
        · intro w' hSw
          first | (go_simp; done) | (go_simp; with_reducible rfl) | (go_simp; rw [IntKind.wrap_i64]; omega) | (go_simp; omega)
        simp only [Act.put, List.setIfInBounds_toArray, List.set_cons_zero, List.set_cons_succ]
        refine wpAnyH_take (i := 1) (v := .int .i64 (I : Int)) rfl (by kernel_rfl) (by kernel_rfl) (by kernel_rfl) (fun _ _ _ h => h) (Or.inl ⟨by kernel_rfl, ?_⟩) hHeld ?_
        · intro w' hSw
          first | (go_simp; done) | (go_simp; with_reducible rfl) | (go_simp; rw [IntKind.wrap_i64]; omega) | (go_simp; omega)
        simp only [Act.put, List.setIfInBounds_toArray, List.set_cons_zero, List.set_cons_succ]
        refine wpAnyH_take (i := 2) (v := .slice (some ⟨B, 0, none⟩) n cp) rfl (by kernel_rfl) (by kernel_rfl) (by kernel_rfl) (fun _ _ _ h => h) (Or.inl ⟨by kernel_rfl, ?_⟩) hHeld ?_
        · intro w' hSw
          first | (go_simp; done) | (go_simp; with_reducible rfl) | (go_simp; rw [IntKind.wrap_i64]; omega) | (go_simp; omega)
        simp only [Act.put, List.setIfInBounds_toArray, List.set_cons_zero, List.set_cons_succ]
        refine wpAnyH_take (i := 3) (v := .int .i64 (I : Int)) rfl (by kernel_rfl) (by kernel_rfl) (by kernel_rfl) (fun _ _ _ h => h) (Or.inl ⟨by kernel_rfl, ?_⟩) hHeld ?_
        · intro w' hSw
          first | (go_simp; done) | (go_simp; with_reducible rfl) | (go_simp; rw [IntKind.wrap_i64]; omega) | (go_simp; omega)
        simp only [Act.put, List.setIfInBounds_toArray, List.set_cons_zero, List.set_cons_succ]
        refine wpAnyH_take (i := 4) (v := .int .i64 (J : Int)) rfl (by kernel_rfl) (by kernel_rfl) (by kernel_rfl) (fun _ _ _ h => h) (Or.inl ⟨by kernel_rfl, ?_⟩) hHeld ?_
        · intro w' hSw
          first | (go_simp; done) | (go_simp; with_reducible rfl) | (go_simp; rw [IntKind.wrap_i64]; omega) | (go_simp; omega)
        simp only [Act.put, List.setIfInBounds_toArray, List.set_cons_zero, List.set_cons_succ]
        refine wpAnyH_take (i := 5) (v := .slice (some ⟨B, 0, none⟩) n cp) rfl (by kernel_rfl) (by kernel_rfl) (by kernel_rfl) (fun _ _ _ h => h) (Or.inl ⟨by kernel_rfl, ?_⟩) hHeld ?_
        · intro w' hSw
          first | (go_simp; done) | (go_simp; with_reducible rfl) | (go_simp; rw [IntKind.wrap_i64]; omega) | (go_simp; omega)
        simp only [Act.put, List.setIfInBounds_toArray, List.set_cons_zero, List.set_cons_succ]
        refine wpAnyH_take (i := 6) (v := .int .i64 (I : Int)) rfl (by kernel_rfl) (by kernel_rfl) (by kernel_rfl) (fun _ _ _ h => h) (Or.inl ⟨by kernel_rfl, ?_⟩) hHeld ?_
        · intro w' hSw
          first | (go_simp; done) | (go_simp; with_reducible rfl) | (go_simp; rw [IntKind.wrap_i64]; omega) | (go_simp; omega)
        simp only [Act.put, List.setIfInBounds_toArray, List.set_cons_zero, List.set_cons_succ]
        refine wpAnyH_take (i := 7) (v := .int .i64 (J : Int)) rfl (by kernel_rfl) (by kernel_rfl) (by kernel_rfl) (fun _ _ _ h => h) (Or.inl ⟨by kernel_rfl, ?_⟩) hHeld ?_
        · intro w' hSw
          first | (go_simp; done) | (go_simp; with_reducible rfl) | (go_simp; rw [IntKind.wrap_i64]; omega) | (go_simp; omega)
        simp only [Act.put, List.setIfInBounds_toArray, List.set_cons_zero, List.set_cons_succ]
        refine wpAnyH_take (i := 8) (v := .pointer (some ⟨B, J, none⟩)) rfl (by kernel_rfl) (by kernel_rfl) (by kernel_rfl) (fun _ _ _ h => h) (Or.inl ⟨by kernel_rfl, ?_⟩) hHeld ?_
        · intro w' hSw
          first | (go_simp; done) | (go_simp; with_reducible rfl) | (go_simp; rw [IntKind.wrap_i64]; omega) | (go_simp; omega)
        simp only [Act.put, List.setIfInBounds_toArray, List.set_cons_zero, List.set_cons_succ]
        refine wpAnyH_take (i := 10) (v := .slice (some ⟨B, 0, none⟩) n cp) rfl (by kernel_rfl) (by kernel_rfl) (by kernel_rfl) (fun _ _ _ h => h) (Or.inl ⟨by kernel_rfl, ?_⟩) hHeld ?_
        · intro w' hSw
          first | (go_simp; done) | (go_simp; with_reducible rfl) | (go_simp; rw [IntKind.wrap_i64]; omega) | (go_simp; omega)
        simp only [Act.put, List.setIfInBounds_toArray, List.set_cons_zero, List.set_cons_succ]
        refine wpAnyH_take (i := 11) (v := .int .i64 (I : Int)) rfl (by kernel_rfl) (by kernel_rfl) (by kernel_rfl) (fun _ _ _ h => h) (Or.inl ⟨by kernel_rfl, ?_⟩) hHeld ?_
        · intro w' hSw
          first | (go_simp; done) | (go_simp; with_reducible rfl) | (go_simp; rw [IntKind.wrap_i64]; omega) | (go_simp; omega)
        simp only [Act.put, List.setIfInBounds_toArray, List.set_cons_zero, List.set_cons_succ]
        refine wpAnyH_take (i := 12) (v := .pointer (some ⟨B, I, none⟩)) rfl (by kernel_rfl) (by kernel_rfl) (by kernel_rfl) (fun _ _ _ h => h) (Or.inl ⟨by kernel_rfl, ?_⟩) hHeld ?_
        · intro w' hSw
          first | (go_simp; done) | (go_simp; with_reducible rfl) | (go_simp; rw [IntKind.wrap_i64]; omega) | (go_simp; omega)
        simp only [Act.put, List.setIfInBounds_toArray, List.set_cons_zero, List.set_cons_succ]
        refine wpAnyH_ready (rs := [9, 13]) (by kernel_rfl) (by simp) ?_
        refine (AllReadyH.cons rfl (fun KK hK => ?_) (AllReadyH.cons rfl (fun KK hK => ?_) AllReadyH.nil))
        · have hl_ : x0.cell? ⟨B, J, none⟩ = some (.int .u32 (Z J)) := HD.out.2.2 J iJ
          go_simp
          clear hl_
          refine hK.out _ _ (trivial) (fun hHeld => ?_)
          clear hK KK
          refine wpAnyH_ready (rs := [13]) (by kernel_rfl) (by simp) ?_
          refine (AllReadyH.cons rfl (fun KK hK => ?_) AllReadyH.nil)
          have hl_ : x0.cell? ⟨B, I, none⟩ = some (.int .u32 (Z I)) := HD.out.2.2 I iI
          go_simp
          clear hl_
          refine hK.out _ _ (trivial) (fun hHeld => ?_)
          clear hK KK
          refine wpAnyH_take (i := 14) (v := .pointer (some ⟨B, I, none⟩)) rfl (by kernel_rfl) (by kernel_rfl) (by kernel_rfl) (fun _ _ _ h => h) (Or.inl ⟨by kernel_rfl, ?_⟩) hHeld ?_
          · intro w' hSw
            first | (go_simp; done) | (go_simp; with_reducible rfl) | (go_simp; rw [IntKind.wrap_i64]; omega) | (go_simp; omega)
          simp only [Act.put, List.setIfInBounds_toArray, List.set_cons_zero, List.set_cons_succ]
          refine wpAnyH_ready (rs := [15]) (by kernel_rfl) (by simp) ?_
          refine (AllReadyH.cons rfl (fun KK hK => ?_) AllReadyH.nil)
          have hl_ : x0.cell? ⟨B, I, none⟩ = some (.int .u32 (Z I)) := HD.out.2.2 I iI
          have hf_ : x0.frozen? ⟨B, I, none⟩ = false := HD.out.2.1 I
          go_simp
          obtain ⟨x0_3, hv_⟩ : ∃ z, x0.setCell ⟨B, I, none⟩ (.int .u32 (Z J)) = z := ⟨_, rfl⟩
          rw [hv_]
          have hl2 : x0_3.cell? ⟨B, J, none⟩ = some (.int .u32 (Z J)) := by rw [← hv_, World.cell?_setCell_other _ _ _ _ (by intro q; injection q with q1 q2 q3; omega)]; exact HD.out.2.2 J iJ
          have hf2 : x0_3.frozen? ⟨B, J, none⟩ = false := by rw [← hv_]; simp [go_sem, HD.out.2.1]
          clear hl_ hf_
          refine hK.out _ _ (trivial) (fun hHeld => ?_)
          clear hK KK
          refine wpAnyH_take (i := 16) (v := .pointer (some ⟨B, J, none⟩)) rfl (by kernel_rfl) (by kernel_rfl) (by kernel_rfl) (fun _ _ _ h => h) (Or.inl ⟨by kernel_rfl, ?_⟩) hHeld ?_
          · intro w' hSw
            first | (go_simp; done) | (go_simp; with_reducible rfl) | (go_simp; rw [IntKind.wrap_i64]; omega) | (go_simp; omega)
          simp only [Act.put, List.setIfInBounds_toArray, List.set_cons_zero, List.set_cons_succ]
          refine wpAnyH_ready (rs := [17]) (by kernel_rfl) (by simp) ?_
          refine (AllReadyH.cons rfl (fun KK hK => ?_) AllReadyH.nil)
          go_simp
          have HD2 : Hid (DatF (x0_3.setCell ⟨B, J, none⟩ (.int .u32 (Z I))) B n (fun k => if k = J then Z I else if k = I then Z J else Z k)) := by show DatF _ _ _ _; rw [← hv_]; exact HD.out.swap iI iJ nIJ
          have HT2 : Hid (Turn (fun q => q = B) w (x0_3.setCell ⟨B, J, none⟩ (.int .u32 (Z I)))) := by show Turn _ _ _; rw [← hv_]; exact HT.out.trans ((Turn.of (S := fun q => q = B) (Beside.setCell B _ _ _) rfl).trans (Turn.of (S := fun q => q = B) (Beside.setCell B _ _ _) rfl))
          obtain ⟨x0_4, hv2⟩ : ∃ z, x0_3.setCell ⟨B, J, none⟩ (.int .u32 (Z I)) = z := ⟨_, rfl⟩
          rw [hv2] at HD2 HT2 ⊢
          clear hv2 hv_ hl2 hf2 HD HT
          refine hK.out _ _ (trivial) (fun hHeld => ?_)
          clear hK KK
          refine wpAnyH_done (by kernel_rfl) ?_ _
          clear hHeld
          replace HD2 := HD2.out.congr (fun k _ => HN.out k)
          go_wp2
          go_roundw
          case rel => exact ⟨J, HIJ.out.1, HIJ.out.2.1, by go_num, HG, HD2, HT2⟩
          case measure => have := HIJ.out.2.2; first | (simp [intOf]; done) | (simp [intOf]; omega)
        · have hl_ : x0.cell? ⟨B, I, none⟩ = some (.int .u32 (Z I)) := HD.out.2.2 I iI
          go_simp
          clear hl_
          refine hK.out _ _ (trivial) (fun hHeld => ?_)
          clear hK KK
          refine wpAnyH_ready (rs := [9]) (by kernel_rfl) (by simp) ?_
          refine (AllReadyH.cons rfl (fun KK hK => ?_) AllReadyH.nil)
          have hl_ : x0.cell? ⟨B, J, none⟩ = some (.int .u32 (Z J)) := HD.out.2.2 J iJ
          go_simp
          clear hl_
          refine hK.out _ _ (trivial) (fun hHeld => ?_)
          clear hK KK
          refine wpAnyH_take (i := 14) (v := .pointer (some ⟨B, I, none⟩)) rfl (by kernel_rfl) (by kernel_rfl) (by kernel_rfl) (fun _ _ _ h => h) (Or.inl ⟨by kernel_rfl, ?_⟩) hHeld ?_
          · intro w' hSw
            first | (go_simp; done) | (go_simp; with_reducible rfl) | (go_simp; rw [IntKind.wrap_i64]; omega) | (go_simp; omega)
          simp only [Act.put, List.setIfInBounds_toArray, List.set_cons_zero, List.set_cons_succ]
          refine wpAnyH_ready (rs := [15]) (by kernel_rfl) (by simp) ?_
          refine (AllReadyH.cons rfl (fun KK hK => ?_) AllReadyH.nil)
          have hl_ : x0.cell? ⟨B, I, none⟩ = some (.int .u32 (Z I)) := HD.out.2.2 I iI
          have hf_ : x0.frozen? ⟨B, I, none⟩ = false := HD.out.2.1 I
          go_simp
          obtain ⟨x0_7, hv_⟩ : ∃ z, x0.setCell ⟨B, I, none⟩ (.int .u32 (Z J)) = z := ⟨_, rfl⟩
          rw [hv_]
          have hl2 : x0_7.cell? ⟨B, J, none⟩ = some (.int .u32 (Z J)) := by rw [← hv_, World.cell?_setCell_other _ _ _ _ (by intro q; injection q with q1 q2 q3; omega)]; exact HD.out.2.2 J iJ
          have hf2 : x0_7.frozen? ⟨B, J, none⟩ = false := by rw [← hv_]; simp [go_sem, HD.out.2.1]
          clear hl_ hf_
          refine hK.out _ _ (trivial) (fun hHeld => ?_)
          clear hK KK
          refine wpAnyH_take (i := 16) (v := .pointer (some ⟨B, J, none⟩)) rfl (by kernel_rfl) (by kernel_rfl) (by kernel_rfl) (fun _ _ _ h => h) (Or.inl ⟨by kernel_rfl, ?_⟩) hHeld ?_
          · intro w' hSw
            first | (go_simp; done) | (go_simp; with_reducible rfl) | (go_simp; rw [IntKind.wrap_i64]; omega) | (go_simp; omega)
          simp only [Act.put, List.setIfInBounds_toArray, List.set_cons_zero, List.set_cons_succ]
          refine wpAnyH_ready (rs := [17]) (by kernel_rfl) (by simp) ?_
          refine (AllReadyH.cons rfl (fun KK hK => ?_) AllReadyH.nil)
          go_simp
          have HD2 : Hid (DatF (x0_7.setCell ⟨B, J, none⟩ (.int .u32 (Z I))) B n (fun k => if k = J then Z I else if k = I then Z J else Z k)) := by show DatF _ _ _ _; rw [← hv_]; exact HD.out.swap iI iJ nIJ
          have HT2 : Hid (Turn (fun q => q = B) w (x0_7.setCell ⟨B, J, none⟩ (.int .u32 (Z I)))) := by show Turn _ _ _; rw [← hv_]; exact HT.out.trans ((Turn.of (S := fun q => q = B) (Beside.setCell B _ _ _) rfl).trans (Turn.of (S := fun q => q = B) (Beside.setCell B _ _ _) rfl))
          obtain ⟨x0_8, hv2⟩ : ∃ z, x0_7.setCell ⟨B, J, none⟩ (.int .u32 (Z I)) = z := ⟨_, rfl⟩
          rw [hv2] at HD2 HT2 ⊢
          clear hv2 hv_ hl2 hf2 HD HT
          refine hK.out _ _ (trivial) (fun hHeld => ?_)
          clear hK KK
          refine wpAnyH_done (by kernel_rfl) ?_ _
          clear hHeld
          replace HD2 := HD2.out.congr (fun k _ => HN.out k)
          go_wp2
          go_roundw
          case rel => exact ⟨J, HIJ.out.1, HIJ.out.2.1, by go_num, HG, HD2, HT2⟩
          case measure => have := HIJ.out.2.2; first | (simp [intOf]; done) | (simp [intOf]; omega)
      case neg =>
        replace HE : Hid (InsO lt V Z a (i + 1)) := HE.out hlt
        have HX : Hid (∀ W', Cap W' → Calls Try.prog 82 #[.int .u32 (Z I), .int .u32 (Z J)] W' fun e w'' => ∃ c, (e = .returned (.int .i64 c)) ∧ (decide (c < 0) = false) ∧ Below W'.heap.size W' w'') := fun W' hW => (HM.out W' (Z J) (Z I) hW okJ okI xlt).mono (fun e w'' ⟨c, h1, h2, h3⟩ => ⟨c, h1, decide_eq_false (fun q => hlt (h2.mp q)), h3⟩)
        clear HG HN hlt xlt okI okJ
        go_upto_region 4 with fail
        refine wp_region_held_drew (S := fun w' => w'.cell? ⟨B, I, none⟩ = some (.int .u32 (Z I)) ∧ w'.cell? ⟨B, J, none⟩ = some (.int .u32 (Z J))) (by kernel_rfl) ?_ (fun hHeld => ?_)
        · exact ⟨((Below.drew (Below.refl _ _) : Below ws.heap.size ws ws.drew).cell (p := ⟨B, I, none⟩) zb).trans dI, ((Below.drew (Below.refl _ _) : Below ws.heap.size ws ws.drew).cell (p := ⟨B, J, none⟩) zb).trans dJ⟩
        obtain ⟨u0, hv0⟩ : ∃ z, z = ws.drew := ⟨_, rfl⟩
        try rw [← hv0] at hHeld
        rw [← hv0]
        have bv0 : Below ws.heap.size ws u0 := by rw [hv0]; exact Below.drew (Below.refl _ _)
        clear hv0
        replace HD : Hid (DatF u0 B n Z) := HD.out.below bv0
        replace HT : Hid (Turn (fun q => q = B) w u0) := HT.out.trans (Turn.grown bv0)
        replace HC : Hid (Cap u0) := HK.out _ _ HC.out (Turn.grown bv0)
        clear bv0 dI dJ zb
        refine wpAnyH_take (i := 0) (v := .int .i64 (I : Int)) rfl (by kernel_rfl) (by kernel_rfl) (by kernel_rfl) (fun _ _ _ h => h) (Or.inl ⟨by kernel_rfl, ?_⟩) hHeld ?_
        · intro w' hSw
          obtain ⟨s0, s1⟩ := hSw
          first | (go_simp; done) | (go_simp; with_reducible rfl) | (go_simp; rw [IntKind.wrap_i64]; omega) | (go_simp; omega)
        simp only [Act.put, List.setIfInBounds_toArray, List.set_cons_zero, List.set_cons_succ]
        refine wpAnyH_take (i := 1) (v := .int .i64 (a : Int)) rfl (by kernel_rfl) (by kernel_rfl) (by kernel_rfl) (fun _ _ _ h => h) (Or.inl ⟨by kernel_rfl, ?_⟩) hHeld ?_
        · intro w' hSw
          obtain ⟨s0, s1⟩ := hSw
          first | (go_simp; done) | (go_simp; with_reducible rfl) | (go_simp; rw [IntKind.wrap_i64]; omega) | (go_simp; omega)
        simp only [Act.put, List.setIfInBounds_toArray, List.set_cons_zero, List.set_cons_succ]
        refine wpAnyH_take (i := 2) (v := .bool true) rfl (by kernel_rfl) (by kernel_rfl) (by kernel_rfl) (fun _ _ _ h => h) (Or.inl ⟨by kernel_rfl, ?_⟩) hHeld ?_
        · intro w' hSw
          obtain ⟨s0, s1⟩ := hSw
          first | (go_simp; done) | (go_simp; with_reducible rfl) | (go_simp; rw [IntKind.wrap_i64]; omega) | (go_simp; omega)
        simp only [Act.put, List.setIfInBounds_toArray, List.set_cons_zero, List.set_cons_succ]
        refine wpAnyH_take (i := 3) (v := .bool true) rfl (by kernel_rfl) (by kernel_rfl) (by kernel_rfl) (fun _ _ _ h => h) (Or.inl ⟨by kernel_rfl, ?_⟩) hHeld ?_
        · intro w' hSw
          obtain ⟨s0, s1⟩ := hSw
          first | (go_simp; done) | (go_simp; with_reducible rfl) | (go_simp; rw [IntKind.wrap_i64]; omega) | (go_simp; omega)
        simp only [Act.put, List.setIfInBounds_toArray, List.set_cons_zero, List.set_cons_succ]
        refine wpAnyH_take (i := 4) (v := .func (.func 82) #[] #[]) rfl (by kernel_rfl) (by kernel_rfl) (by kernel_rfl) (fun _ _ _ h => h) (Or.inl ⟨by kernel_rfl, ?_⟩) hHeld ?_
        · intro w' hSw
          obtain ⟨s0, s1⟩ := hSw
          first | (go_simp; done) | (go_simp; with_reducible rfl) | (go_simp; rw [IntKind.wrap_i64]; omega) | (go_simp; omega)
        simp only [Act.put, List.setIfInBounds_toArray, List.set_cons_zero, List.set_cons_succ]
        refine wpAnyH_take (i := 5) (v := .slice (some ⟨B, 0, none⟩) n cp) rfl (by kernel_rfl) (by kernel_rfl) (by kernel_rfl) (fun _ _ _ h => h) (Or.inl ⟨by kernel_rfl, ?_⟩) hHeld ?_
        · intro w' hSw
          obtain ⟨s0, s1⟩ := hSw
          first | (go_simp; done) | (go_simp; with_reducible rfl) | (go_simp; rw [IntKind.wrap_i64]; omega) | (go_simp; omega)
        simp only [Act.put, List.setIfInBounds_toArray, List.set_cons_zero, List.set_cons_succ]
        refine wpAnyH_take (i := 6) (v := .int .i64 (I : Int)) rfl (by kernel_rfl) (by kernel_rfl) (by kernel_rfl) (fun _ _ _ h => h) (Or.inl ⟨by kernel_rfl, ?_⟩) hHeld ?_
        · intro w' hSw
          obtain ⟨s0, s1⟩ := hSw
          first | (go_simp; done) | (go_simp; with_reducible rfl) | (go_simp; rw [IntKind.wrap_i64]; omega) | (go_simp; omega)
        simp only [Act.put, List.setIfInBounds_toArray, List.set_cons_zero, List.set_cons_succ]
        refine wpAnyH_take (i := 7) (v := .pointer (some ⟨B, I, none⟩)) rfl (by kernel_rfl) (by kernel_rfl) (by kernel_rfl) (fun _ _ _ h => h) (Or.inl ⟨by kernel_rfl, ?_⟩) hHeld ?_
        · intro w' hSw
          obtain ⟨s0, s1⟩ := hSw
          first | (go_simp; done) | (go_simp; with_reducible rfl) | (go_simp; rw [IntKind.wrap_i64]; omega) | (go_simp; omega)
        simp only [Act.put, List.setIfInBounds_toArray, List.set_cons_zero, List.set_cons_succ]
        refine wpAnyH_take (i := 8) (v := .int .u32 (Z I)) rfl (by kernel_rfl) (by kernel_rfl) (by kernel_rfl) (fun _ _ _ h => h) (Or.inl ⟨by kernel_rfl, ?_⟩) hHeld ?_
        · intro w' hSw
          obtain ⟨s0, s1⟩ := hSw
          first | (go_simp; done) | (go_simp; with_reducible rfl) | (go_simp; rw [IntKind.wrap_i64]; omega) | (go_simp; omega)
        simp only [Act.put, List.setIfInBounds_toArray, List.set_cons_zero, List.set_cons_succ]
        refine wpAnyH_take (i := 9) (v := .slice (some ⟨B, 0, none⟩) n cp) rfl (by kernel_rfl) (by kernel_rfl) (by kernel_rfl) (fun _ _ _ h => h) (Or.inl ⟨by kernel_rfl, ?_⟩) hHeld ?_
        · intro w' hSw
          obtain ⟨s0, s1⟩ := hSw
          first | (go_simp; done) | (go_simp; with_reducible rfl) | (go_simp; rw [IntKind.wrap_i64]; omega) | (go_simp; omega)
        simp only [Act.put, List.setIfInBounds_toArray, List.set_cons_zero, List.set_cons_succ]
        refine wpAnyH_take (i := 10) (v := .int .i64 (I : Int)) rfl (by kernel_rfl) (by kernel_rfl) (by kernel_rfl) (fun _ _ _ h => h) (Or.inl ⟨by kernel_rfl, ?_⟩) hHeld ?_
        · intro w' hSw
          obtain ⟨s0, s1⟩ := hSw
          first | (go_simp; done) | (go_simp; with_reducible rfl) | (go_simp; rw [IntKind.wrap_i64]; omega) | (go_simp; omega)
        simp only [Act.put, List.setIfInBounds_toArray, List.set_cons_zero, List.set_cons_succ]
        refine wpAnyH_take (i := 11) (v := .int .i64 (J : Int)) rfl (by kernel_rfl) (by kernel_rfl) (by kernel_rfl) (fun _ _ _ h => h) (Or.inl ⟨by kernel_rfl, ?_⟩) hHeld ?_
        · intro w' hSw
          obtain ⟨s0, s1⟩ := hSw
          first | (go_simp; done) | (go_simp; with_reducible rfl) | (go_simp; rw [IntKind.wrap_i64]; omega) | (go_simp; omega)
        simp only [Act.put, List.setIfInBounds_toArray, List.set_cons_zero, List.set_cons_succ]
        refine wpAnyH_take (i := 12) (v := .pointer (some ⟨B, J, none⟩)) rfl (by kernel_rfl) (by kernel_rfl) (by kernel_rfl) (fun _ _ _ h => h) (Or.inl ⟨by kernel_rfl, ?_⟩) hHeld ?_
        · intro w' hSw
          obtain ⟨s0, s1⟩ := hSw
          first | (go_simp; done) | (go_simp; with_reducible rfl) | (go_simp; rw [IntKind.wrap_i64]; omega) | (go_simp; omega)
        simp only [Act.put, List.setIfInBounds_toArray, List.set_cons_zero, List.set_cons_succ]
        refine wpAnyH_take (i := 13) (v := .int .u32 (Z J)) rfl (by kernel_rfl) (by kernel_rfl) (by kernel_rfl) (fun _ _ _ h => h) (Or.inl ⟨by kernel_rfl, ?_⟩) hHeld ?_
        · intro w' hSw
          obtain ⟨s0, s1⟩ := hSw
          first | (go_simp; done) | (go_simp; with_reducible rfl) | (go_simp; rw [IntKind.wrap_i64]; omega) | (go_simp; omega)
        simp only [Act.put, List.setIfInBounds_toArray, List.set_cons_zero, List.set_cons_succ]
        refine wpAnyH_ready (rs := [14]) (by kernel_rfl) (by simp) ?_
        refine (AllReadyH.cons rfl (fun KK hK => ?_) AllReadyH.nil)
        go_simp
        go_wp2_with fail
        refine (HX.out _ HC.out).mono ?_
        rintro e u0_1 ⟨c, rfl, hc, h6⟩
        replace HD : Hid (DatF u0_1 B n Z) := HD.out.below h6
        replace HT : Hid (Turn (fun q => q = B) w u0_1) := HT.out.trans (Turn.grown h6)
        replace HC : Hid (Cap u0_1) := HK.out _ _ HC.out (Turn.grown h6)
        clear h6
        have dI := HD.out.2.2 I iI
        have dJ := HD.out.2.2 J iJ
        refine hK.out _ _ (⟨dI, dJ⟩) (fun hHeld => ?_)
        clear hK KK
        refine wpAnyH_take (i := 15) (v := .bool false) rfl (by kernel_rfl) (by kernel_rfl) (by kernel_rfl) (fun _ _ _ h => h) (Or.inl ⟨by kernel_rfl, ?_⟩) hHeld ?_
        · intro w' hSw
          obtain ⟨s0, s1⟩ := hSw
          first | (go_simp; done) | (go_simp; with_reducible rfl) | (go_simp; rw [IntKind.wrap_i64]; omega) | (go_simp; omega)
        simp only [Act.put, List.setIfInBounds_toArray, List.set_cons_zero, List.set_cons_succ]
        refine wpAnyH_ready (rs := [16]) (by kernel_rfl) (by simp) ?_
        refine AllReadyH.cons rfl (fun KK hK => ?_) AllReadyH.nil
        go_simp
        refine hK.out _ _ hHeld (fun hHeld => ?_)
        clear hK KK
        refine wpAnyH_done (by kernel_rfl) ?_ _
        clear hHeld
        clear hc dI dJ HX
        go_wp2
        go_roundw
        case rel => exact ⟨i + 1, Z, by omega, Or.inl (by omega), by go_num, HE, HD, HT⟩
        case measure => first | (simp [intOf]; done) | (simp [intOf]; omega)
end Go.Proofs.Ytpaiajeigdifcaa
