/-
What is proved: slices.Compact of a list of int64s that may be written: of equal neighbours one is left.
-/
import Derived.Test.YtlkegoofpmgcjaaCc2
import Derived.Lib.SliceRun
import Derived.Laws.IdiomCopy
import Derived.Deep.RegionHeldLaw
import Derived.BigQuiet
namespace Go.Proofs.Ytlkegoofpmgcjaa
set_option maxRecDepth 40000
open Go.ChangeShapes Go.WideShapes Go.ChangeAt Go.RowKit
set_option linter.unusedVariables false
set_option linter.unusedSimpArgs false

def cmU (U : Nat → Int) : Nat → List Int
  | 0 => []
  | 1 => [U 0]
  | k + 2 => if U (k + 1) = U k then cmU U (k + 1) else cmU U (k + 1) ++ [U (k + 1)]
theorem cmU_same {U : Nat → Int} {k : Nat} (h1 : 1 ≤ k) (h : U k = U (k - 1)) : cmU U (k + 1) = cmU U k := by
  obtain ⟨j, rfl⟩ : ∃ j, k = j + 1 := ⟨k - 1, by omega⟩
  simp only [Nat.add_sub_cancel] at h
  show (if U (j + 1) = U j then _ else _) = _
  rw [if_pos h]
theorem cmU_more {U : Nat → Int} {k : Nat} (h1 : 1 ≤ k) (h : ¬ U k = U (k - 1)) : cmU U (k + 1) = cmU U k ++ [U k] := by
  obtain ⟨j, rfl⟩ : ∃ j, k = j + 1 := ⟨k - 1, by omega⟩
  simp only [Nat.add_sub_cancel] at h
  show (if U (j + 1) = U j then _ else _) = _
  rw [if_neg h]
theorem cmU_all {U : Nat → Int} : ∀ (k : Nat), (∀ j, 1 ≤ j → j < k → ¬ U j = U (j - 1)) → (cmU U k).length = k ∧ ∀ j, j < k → (cmU U k).getD j 0 = U j
  | 0, _ => ⟨rfl, fun j hj => by omega⟩
  | 1, _ => ⟨rfl, fun j hj => by
      obtain rfl : j = 0 := (by omega)
      rfl⟩
  | k + 2, h => by
    have ih := cmU_all (k + 1) (fun j h1 h2 => h j h1 (by omega))
    rw [cmU_more (by omega) (h (k + 1) (by omega) (by omega))]
    refine ⟨by rw [List.length_append, ih.1]; rfl, fun j hj => ?_⟩
    by_cases e : j = k + 1
    · subst e
      rw [List.getD_eq_getElem?_getD, List.getElem?_append_right (by omega), ih.1]
      simp
    · rw [List.getD_eq_getElem?_getD, List.getElem?_append_left (by omega), ← List.getD_eq_getElem?_getD]
      exact ih.2 j (by omega)
/-- The cells of a list on its way: the first l are R, the others as they were. -/
def CmA (g m : Nat) (U : Nat → Int) (R : List Int) (W : World) : Prop := g < W.heap.size ∧ (∀ j, j < m → W.cell? ⟨g, j, none⟩ = some (.int .i64 (if j < R.length then R.getD j 0 else U j))) ∧ ∀ j, W.frozen? ⟨g, j, none⟩ = false
theorem CmA.below {g m : Nat} {U : Nat → Int} {R : List Int} {W W' : World} (h : CmA g m U R W) (hb : Below W.heap.size W W') : CmA g m U R W' :=
  ⟨Nat.lt_of_lt_of_le h.1 hb.size, fun j hj => (hb.cell (p := ⟨g, j, none⟩) h.1).trans (h.2.1 j hj), fun j => (hb.frozen (p := ⟨g, j, none⟩) h.1).trans (h.2.2 j)⟩
theorem CmA.at {g m : Nat} {U : Nat → Int} {R : List Int} {W : World} (h : CmA g m U R W) {j : Nat} (hj : j < m) (hl : R.length ≤ j) : W.cell? ⟨g, j, none⟩ = some (.int .i64 (U j)) := by
  have := h.2.1 j hj
  rw [if_neg (by omega)] at this
  exact this
theorem CmA.push {g m : Nat} {U : Nat → Int} {R : List Int} {W : World} (h : CmA g m U R W) (x : Int) (hl : R.length < m) : CmA g m U (R ++ [x]) (W.setCell ⟨g, R.length, none⟩ (.int .i64 x)) := by
  have bs : Beside g W (W.setCell ⟨g, R.length, none⟩ (.int .i64 x)) := Beside.setCell g _ _ _
  refine ⟨Nat.lt_of_lt_of_le h.1 bs.2.2.2.1, fun j hj => ?_, fun j => by rw [World.frozen?_setCell]; exact h.2.2 j⟩
  by_cases e : j = R.length
  · subst e
    rw [if_pos (by simp), List.getD_eq_getElem?_getD, List.getElem?_append_right (Nat.le_refl _), Nat.sub_self]
    exact World.cell?_setCell_same' _ _ _ (by rw [h.2.1 _ hj]; rfl)
  · refine (World.cell?_setCell_other _ _ _ _ (by intro q; cases q; exact e rfl)).trans ((h.2.1 j hj).trans ?_)
    by_cases q : j < R.length
    · rw [if_pos q, if_pos (by simp; omega), List.getD_eq_getElem?_getD, List.getD_eq_getElem?_getD, List.getElem?_append_left q]
    · rw [if_neg q, if_neg (by simp; omega)]
theorem beside_setCells (g : Nat) : ∀ (vs : List Value) (o : Nat) (w : World), Beside g w (w.setCells g o vs)
  | [], _, _ => Beside.of (Below.refl _ _)
  | v :: r, o, w => (Beside.setCell g w o v).trans (beside_setCells g r (o + 1) _)
def CpPost (g cap m : Nat) (U : Nat → Int) (w : World) (e : Ending) (w' : World) : Prop := e = .returned (.slice (some ⟨g, 0, none⟩) (cmU U m).length cap) ∧ g < w'.heap.size ∧ (∀ j, j < (cmU U m).length → w'.cell? ⟨g, j, none⟩ = some (.int .i64 ((cmU U m).getD j 0))) ∧ (∀ j, w'.frozen? ⟨g, j, none⟩ = false) ∧ Beside g w w'
set_option maxRecDepth 20000 in
set_option maxHeartbeats 8000000 in
theorem compact_any (g cap m : Nat) (U : Nat → Int) (w : World) (hm : 1 ≤ m) (h40 : (m : Int) ≤ 40) (hcap : (m : Int) ≤ (cap : Int)) (HC : Hid (CmA g m U [] w)) :
    Calls Try.prog 61 #[.slice (some ⟨g, 0, none⟩) m cap] w fun e w' => CpPost g cap m U w e w' := by
  have zv : ∀ w, (zeroValue 2).run Try.prog w = .ok (.int .i64 0) w := fun w => by kernel_rfl
  by_cases h1 : m = 1
  case pos =>
    subst h1
    have c0 := HC.out.at (j := 0) (by omega) (by simp)
    have g0 := HC.out.1
    have gf0 := HC.out.2.2
    go_enter Try.func61, Try.ntmps61
    go_wp2
    go_ret
    unfold CpPost
    exact ⟨rfl, g0, fun j hj => by obtain rfl : j = 0 := (by simp [cmU] at hj; omega); exact c0, gf0, Beside.of (Below.refl _ _)⟩
  have m2 : (2 : Int) ≤ (m : Int) := by omega
  go_enter Try.func61, Try.ntmps61
  go_wp2_with fail
  go_loopw [3] (fun i wr => ∃ k : Nat, 1 ≤ k ∧ k ≤ m ∧ i = .int .i64 (k : Int) ∧ Hid (∀ j, 1 ≤ j → j < k → ¬ U j = U (j - 1)) ∧ Hid (CmA g m U [] wr) ∧ Hid (Below w.heap.size w wr)) (fun i _ => m - (intOf i).toNat)
  case atStart => exact ⟨1, by omega, by omega, rfl, fun j h1 h2 => by omega, HC, Below.refl _ _⟩
  case round =>
    clear HC
    obtain ⟨k, k1, hk, rfl, HD, HC, HB⟩ := hrel
    by_cases hlt : k < m
    case neg =>
      obtain rfl : k = m := by omega
      have ha := cmU_all k HD.out
      have HP : Hid (CpPost g cap k U w (.returned (.slice (some ⟨g, 0, none⟩) k cap)) wr) := by
        show CpPost _ _ _ _ _ _ _
        unfold CpPost
        rw [ha.1]
        exact ⟨rfl, HC.out.1, fun j hj => by rw [ha.2 j hj]; exact HC.out.at hj (by simp), HC.out.2.2, Beside.of HB.out⟩
      clear ha HD HC HB hk
      go_wp2
      go_ret
      exact HP.out
    case pos =>
      obtain ⟨km, hkm⟩ : ∃ km, k = km + 1 := ⟨k - 1, by omega⟩
      have ci := HC.out.at (j := k) hlt (by simp)
      have cj := HC.out.at (j := km) (by omega) (by simp)
      have ek : (k : Int) - 1 = (km : Int) := by omega
      have kmi : (k : Int) < (m : Int) := by omega
      have kmj : (km : Int) < (m : Int) := by omega
      have HKM : Hid (k - 1 = km) := by show _ = _; omega
      obtain ⟨A, hA⟩ : ∃ z, U k = z := ⟨_, rfl⟩
      obtain ⟨B, hB⟩ : ∃ z, U km = z := ⟨_, rfl⟩
      have HA : Hid (U k = A) := hA
      have HBB : Hid (U km = B) := hB
      rw [hA] at ci
      rw [hB] at cj
      clear hkm hA hB
      rename World => wa
      go_upto_region 6 with fail
      refine wp_region_held_drew (S := fun w' => w'.cell? ⟨g, k, none⟩ = some (.int .i64 A) ∧ w'.cell? ⟨g, km, none⟩ = some (.int .i64 B)) (by kernel_rfl) ?_ (fun hHeld => ?_)
      · exact ⟨by simpa [go_sem] using ci, by simpa [go_sem] using cj⟩
      obtain ⟨v0, hv0⟩ : ∃ z, z = wa.drew := ⟨_, rfl⟩
      try rw [← hv0] at hHeld
      rw [← hv0]
      have bv0 : Below wa.heap.size wa v0 := by rw [hv0]; exact Below.drew (Below.refl _ _)
      clear hv0
      replace HC : Hid (CmA g m U [] v0) := HC.out.below bv0
      replace HB : Hid (Below w.heap.size w v0) := HB.out.trans (bv0.mono HB.out.size)
      clear bv0 ci cj
      refine wpAnyH_take (i := 0) (v := .slice (some ⟨g, 0, none⟩) m cap) rfl (by kernel_rfl) (by kernel_rfl) (by kernel_rfl) (fun _ _ _ h => h) (Or.inl ⟨by kernel_rfl, ?_⟩) hHeld ?_
      · intro w' hSw
        obtain ⟨s0_, s1_⟩ := hSw
        first | (go_simp; done) | (go_simp; with_reducible rfl) | (go_simp; rw [IntKind.wrap_i64]; omega) | (go_simp; omega)
      simp only [Act.put, List.setIfInBounds_toArray, List.set_cons_zero, List.set_cons_succ]
      refine wpAnyH_take (i := 1) (v := .int .i64 (k : Int)) rfl (by kernel_rfl) (by kernel_rfl) (by kernel_rfl) (fun _ _ _ h => h) (Or.inl ⟨by kernel_rfl, ?_⟩) hHeld ?_
      · intro w' hSw
        obtain ⟨s0_, s1_⟩ := hSw
        first | (go_simp; done) | (go_simp; with_reducible rfl) | (go_simp; rw [IntKind.wrap_i64]; omega) | (go_simp; omega)
      simp only [Act.put, List.setIfInBounds_toArray, List.set_cons_zero, List.set_cons_succ]
      refine wpAnyH_take (i := 2) (v := .pointer (some ⟨g, k, none⟩)) rfl (by kernel_rfl) (by kernel_rfl) (by kernel_rfl) (fun _ _ _ h => h) (Or.inl ⟨by kernel_rfl, ?_⟩) hHeld ?_
      · intro w' hSw
        obtain ⟨s0_, s1_⟩ := hSw
        first | (go_simp; done) | (go_simp; with_reducible rfl) | (go_simp; rw [IntKind.wrap_i64]; omega) | (go_simp; omega)
      simp only [Act.put, List.setIfInBounds_toArray, List.set_cons_zero, List.set_cons_succ]
      refine wpAnyH_take (i := 3) (v := .int .i64 A) rfl (by kernel_rfl) (by kernel_rfl) (by kernel_rfl) (fun _ _ _ h => h) (Or.inl ⟨by kernel_rfl, ?_⟩) hHeld ?_
      · intro w' hSw
        obtain ⟨s0_, s1_⟩ := hSw
        first | (go_simp; done) | (go_simp; with_reducible rfl) | (go_simp; rw [IntKind.wrap_i64]; omega) | (go_simp; omega)
      simp only [Act.put, List.setIfInBounds_toArray, List.set_cons_zero, List.set_cons_succ]
      refine wpAnyH_take (i := 4) (v := .slice (some ⟨g, 0, none⟩) m cap) rfl (by kernel_rfl) (by kernel_rfl) (by kernel_rfl) (fun _ _ _ h => h) (Or.inl ⟨by kernel_rfl, ?_⟩) hHeld ?_
      · intro w' hSw
        obtain ⟨s0_, s1_⟩ := hSw
        first | (go_simp; done) | (go_simp; with_reducible rfl) | (go_simp; rw [IntKind.wrap_i64]; omega) | (go_simp; omega)
      simp only [Act.put, List.setIfInBounds_toArray, List.set_cons_zero, List.set_cons_succ]
      refine wpAnyH_take (i := 5) (v := .int .i64 (k : Int)) rfl (by kernel_rfl) (by kernel_rfl) (by kernel_rfl) (fun _ _ _ h => h) (Or.inl ⟨by kernel_rfl, ?_⟩) hHeld ?_
      · intro w' hSw
        obtain ⟨s0_, s1_⟩ := hSw
        first | (go_simp; done) | (go_simp; with_reducible rfl) | (go_simp; rw [IntKind.wrap_i64]; omega) | (go_simp; omega)
      simp only [Act.put, List.setIfInBounds_toArray, List.set_cons_zero, List.set_cons_succ]
      refine wpAnyH_take (i := 6) (v := .int .i64 (km : Int)) rfl (by kernel_rfl) (by kernel_rfl) (by kernel_rfl) (fun _ _ _ h => h) (Or.inl ⟨by kernel_rfl, ?_⟩) hHeld ?_
      · intro w' hSw
        obtain ⟨s0_, s1_⟩ := hSw
        first | (go_simp; done) | (go_simp; with_reducible rfl) | (go_simp; rw [IntKind.wrap_i64]; omega) | (go_simp; omega)
      simp only [Act.put, List.setIfInBounds_toArray, List.set_cons_zero, List.set_cons_succ]
      refine wpAnyH_take (i := 7) (v := .pointer (some ⟨g, km, none⟩)) rfl (by kernel_rfl) (by kernel_rfl) (by kernel_rfl) (fun _ _ _ h => h) (Or.inl ⟨by kernel_rfl, ?_⟩) hHeld ?_
      · intro w' hSw
        obtain ⟨s0_, s1_⟩ := hSw
        first | (go_simp; done) | (go_simp; with_reducible rfl) | (go_simp; rw [IntKind.wrap_i64]; omega) | (go_simp; omega)
      simp only [Act.put, List.setIfInBounds_toArray, List.set_cons_zero, List.set_cons_succ]
      refine wpAnyH_take (i := 8) (v := .int .i64 B) rfl (by kernel_rfl) (by kernel_rfl) (by kernel_rfl) (fun _ _ _ h => h) (Or.inl ⟨by kernel_rfl, ?_⟩) hHeld ?_
      · intro w' hSw
        obtain ⟨s0_, s1_⟩ := hSw
        first | (go_simp; done) | (go_simp; with_reducible rfl) | (go_simp; rw [IntKind.wrap_i64]; omega) | (go_simp; omega)
      simp only [Act.put, List.setIfInBounds_toArray, List.set_cons_zero, List.set_cons_succ]
      refine wpAnyH_ready (rs := [9]) (by kernel_rfl) (by simp) ?_
      refine AllReadyH.cons rfl (fun KK hK => ?_) AllReadyH.nil
      go_simp
      refine hK.out _ _ hHeld (fun hHeld => ?_)
      clear hK KK
      refine wpAnyH_done (by kernel_rfl) ?_ _
      clear hHeld
      by_cases hAB : A = B
      case neg =>
        have HD2 : Hid (∀ j, 1 ≤ j → j < k + 1 → ¬ U j = U (j - 1)) := fun j h1 h2 => by
          by_cases e : j = k
          · subst e; rw [HA.out, HKM.out, HBB.out]; exact hAB
          · exact HD.out j h1 (by omega)
        have dAB : (A == B) = false := by simpa using hAB
        go_wp2
        go_roundw
        case rel => exact ⟨k + 1, by omega, by omega, by go_num, HD2, HC, HB⟩
        case measure => simp [intOf]; omega
      case pos =>
        have hsame : cmU U (k + 1) = cmU U k := cmU_same k1 (by rw [HA.out, HKM.out, HBB.out]; exact hAB)
        have hall := cmU_all k HD.out
        have dAB : (A == B) = true := by simpa using hAB
        rw [dAB]
        clear dAB
        have hck : ¬ cap = k := by omega
        have HC1 : Hid (CmA g m U (cmU U (k + 1)) v0) := by
          show CmA _ _ _ _ _
          refine ⟨HC.out.1, fun j hj => ?_, HC.out.2.2⟩
          rw [HC.out.at hj (by simp), hsame, hall.1]
          split
          · rw [hall.2 j (by assumption)]
          · rfl
        have HL1 : Hid ((cmU U (k + 1)).length = k) := by show _ = _; rw [hsame]; exact hall.1
        have HSB : Hid (Beside g w v0) := Beside.of HB.out
        have HEK : Hid (.int .i64 (k : Int) = Value.int .i64 ((cmU U (k + 1)).length : Int)) := by show _ = _; rw [HL1.out]
        obtain ⟨n2, hn2⟩ : ∃ n2, m - k = n2 := ⟨_, rfl⟩
        have hn2b : (n2 : Int) = (m : Int) - (k : Int) := by omega
        clear hsame hall HC HB HD hAB
        clear hn2b hn2
        have mk : ((m - k : Nat) : Int) = (m : Int) - (k : Int) := by omega
        have HMK : Hid (((m - k : Nat) : Int) = (m : Int) - (k : Int)) := mk
        clear mk
        go_wp2_with fail
        go_loopw [3, 5] (fun i q wr => ∃ (k2 : Nat), 1 ≤ k2 ∧ k2 ≤ m - k ∧ q = .int .i64 (k2 : Int) ∧ i = .int .i64 ((cmU U (k + k2)).length : Int) ∧ (cmU U (k + k2)).length ≤ k + k2 - 1 ∧ Hid (CmA g m U (cmU U (k + k2)) wr) ∧ Hid (Beside g w wr)) (fun _ q _ => (m - k) - (intOf q).toNat)
        case atStart => exact ⟨1, by omega, by omega, rfl, HEK.out, by rw [HL1.out]; omega, HC1, HSB⟩
        case round =>
          clear HEK HL1 HC1 HSB
          obtain ⟨k2, k21, hk2, rfl, rfl, hl, HC, HB⟩ := hrel
          rename World => wb
          by_cases hlt2 : k2 < m - k
          case pos =>
            obtain ⟨kn, hkn⟩ : ∃ kn, k2 = kn + 1 := ⟨k2 - 1, by omega⟩
            have di := HC.out.at (j := k + k2) (by omega) (by omega)
            have dj := HC.out.at (j := k + kn) (by omega) (by omega)
            have ek2 : (k2 : Int) - 1 = (kn : Int) := by omega
            have k2i : (k2 : Int) < ((m - k : Nat) : Int) := by omega
            have kni : (kn : Int) < ((m - k : Nat) : Int) := by omega
            have HKN : Hid (k + k2 - 1 = k + kn) := by show _ = _; omega
            have m40 : ((m - k : Nat) : Int) ≤ 40 := by omega
            obtain ⟨A2, hA2⟩ : ∃ z, U (k + k2) = z := ⟨_, rfl⟩
            obtain ⟨B2, hB2⟩ : ∃ z, U (k + kn) = z := ⟨_, rfl⟩
            have HA2 : Hid (U (k + k2) = A2) := hA2
            have HB2 : Hid (U (k + kn) = B2) := hB2
            rw [hA2] at di
            rw [hB2] at dj
            clear hkn hA2 hB2
            go_upto_region 11 with fail
            refine wp_region_held_drew (S := fun w' => w'.cell? ⟨g, k + k2, none⟩ = some (.int .i64 A2) ∧ w'.cell? ⟨g, k + kn, none⟩ = some (.int .i64 B2)) (by kernel_rfl) ?_ (fun hHeld => ?_)
            · exact ⟨by simpa [go_sem] using di, by simpa [go_sem] using dj⟩
            obtain ⟨y0_, hv0⟩ : ∃ z, z = wb.drew := ⟨_, rfl⟩
            try rw [← hv0] at hHeld
            rw [← hv0]
            have bv0 : Below wb.heap.size wb y0_ := by rw [hv0]; exact Below.drew (Below.refl _ _)
            clear hv0
            replace HC : Hid (CmA g m U (cmU U (k + k2)) y0_) := HC.out.below bv0
            replace HB : Hid (Beside g w y0_) := HB.out.trans (Beside.of bv0)
            clear bv0 di dj
            refine wpAnyH_take (i := 0) (v := .slice (some ⟨g, k, none⟩) (m - k) (cap - k)) rfl (by kernel_rfl) (by kernel_rfl) (by kernel_rfl) (fun _ _ _ h => h) (Or.inl ⟨by kernel_rfl, ?_⟩) hHeld ?_
            · intro w' hSw
              obtain ⟨s0_, s1_⟩ := hSw
              first | (go_simp; done) | (go_simp; with_reducible rfl) | (go_simp; rw [IntKind.wrap_i64]; omega) | (go_simp; omega)
            simp only [Act.put, List.setIfInBounds_toArray, List.set_cons_zero, List.set_cons_succ]
            refine wpAnyH_take (i := 1) (v := .int .i64 (k2 : Int)) rfl (by kernel_rfl) (by kernel_rfl) (by kernel_rfl) (fun _ _ _ h => h) (Or.inl ⟨by kernel_rfl, ?_⟩) hHeld ?_
            · intro w' hSw
              obtain ⟨s0_, s1_⟩ := hSw
              first | (go_simp; done) | (go_simp; with_reducible rfl) | (go_simp; rw [IntKind.wrap_i64]; omega) | (go_simp; omega)
            simp only [Act.put, List.setIfInBounds_toArray, List.set_cons_zero, List.set_cons_succ]
            refine wpAnyH_take (i := 2) (v := .pointer (some ⟨g, k + k2, none⟩)) rfl (by kernel_rfl) (by kernel_rfl) (by kernel_rfl) (fun _ _ _ h => h) (Or.inl ⟨by kernel_rfl, ?_⟩) hHeld ?_
            · intro w' hSw
              obtain ⟨s0_, s1_⟩ := hSw
              first | (go_simp; done) | (go_simp; with_reducible rfl) | (go_simp; rw [IntKind.wrap_i64]; omega) | (go_simp; omega)
            simp only [Act.put, List.setIfInBounds_toArray, List.set_cons_zero, List.set_cons_succ]
            refine wpAnyH_take (i := 3) (v := .int .i64 A2) rfl (by kernel_rfl) (by kernel_rfl) (by kernel_rfl) (fun _ _ _ h => h) (Or.inl ⟨by kernel_rfl, ?_⟩) hHeld ?_
            · intro w' hSw
              obtain ⟨s0_, s1_⟩ := hSw
              first | (go_simp; done) | (go_simp; with_reducible rfl) | (go_simp; rw [IntKind.wrap_i64]; omega) | (go_simp; omega)
            simp only [Act.put, List.setIfInBounds_toArray, List.set_cons_zero, List.set_cons_succ]
            refine wpAnyH_take (i := 4) (v := .slice (some ⟨g, k, none⟩) (m - k) (cap - k)) rfl (by kernel_rfl) (by kernel_rfl) (by kernel_rfl) (fun _ _ _ h => h) (Or.inl ⟨by kernel_rfl, ?_⟩) hHeld ?_
            · intro w' hSw
              obtain ⟨s0_, s1_⟩ := hSw
              first | (go_simp; done) | (go_simp; with_reducible rfl) | (go_simp; rw [IntKind.wrap_i64]; omega) | (go_simp; omega)
            simp only [Act.put, List.setIfInBounds_toArray, List.set_cons_zero, List.set_cons_succ]
            refine wpAnyH_take (i := 5) (v := .int .i64 (k2 : Int)) rfl (by kernel_rfl) (by kernel_rfl) (by kernel_rfl) (fun _ _ _ h => h) (Or.inl ⟨by kernel_rfl, ?_⟩) hHeld ?_
            · intro w' hSw
              obtain ⟨s0_, s1_⟩ := hSw
              first | (go_simp; done) | (go_simp; with_reducible rfl) | (go_simp; rw [IntKind.wrap_i64]; omega) | (go_simp; omega)
            simp only [Act.put, List.setIfInBounds_toArray, List.set_cons_zero, List.set_cons_succ]
            refine wpAnyH_take (i := 6) (v := .int .i64 (kn : Int)) rfl (by kernel_rfl) (by kernel_rfl) (by kernel_rfl) (fun _ _ _ h => h) (Or.inl ⟨by kernel_rfl, ?_⟩) hHeld ?_
            · intro w' hSw
              obtain ⟨s0_, s1_⟩ := hSw
              first | (go_simp; done) | (go_simp; with_reducible rfl) | (go_simp; rw [IntKind.wrap_i64]; omega) | (go_simp; omega)
            simp only [Act.put, List.setIfInBounds_toArray, List.set_cons_zero, List.set_cons_succ]
            refine wpAnyH_take (i := 7) (v := .pointer (some ⟨g, k + kn, none⟩)) rfl (by kernel_rfl) (by kernel_rfl) (by kernel_rfl) (fun _ _ _ h => h) (Or.inl ⟨by kernel_rfl, ?_⟩) hHeld ?_
            · intro w' hSw
              obtain ⟨s0_, s1_⟩ := hSw
              first | (go_simp; done) | (go_simp; with_reducible rfl) | (go_simp; rw [IntKind.wrap_i64]; omega) | (go_simp; omega)
            simp only [Act.put, List.setIfInBounds_toArray, List.set_cons_zero, List.set_cons_succ]
            refine wpAnyH_take (i := 8) (v := .int .i64 B2) rfl (by kernel_rfl) (by kernel_rfl) (by kernel_rfl) (fun _ _ _ h => h) (Or.inl ⟨by kernel_rfl, ?_⟩) hHeld ?_
            · intro w' hSw
              obtain ⟨s0_, s1_⟩ := hSw
              first | (go_simp; done) | (go_simp; with_reducible rfl) | (go_simp; rw [IntKind.wrap_i64]; omega) | (go_simp; omega)
            simp only [Act.put, List.setIfInBounds_toArray, List.set_cons_zero, List.set_cons_succ]
            refine wpAnyH_ready (rs := [9]) (by kernel_rfl) (by simp) ?_
            refine AllReadyH.cons rfl (fun KK hK => ?_) AllReadyH.nil
            go_simp
            refine hK.out _ _ hHeld (fun hHeld => ?_)
            clear hK KK
            refine wpAnyH_done (by kernel_rfl) ?_ _
            clear hHeld
            by_cases hAB2 : A2 = B2
            case pos =>
              have hs2 : cmU U (k + k2 + 1) = cmU U (k + k2) := cmU_same (by omega) (by rw [HA2.out, HKN.out, HB2.out]; exact hAB2)
              have HS2 : Hid (cmU U (k + (k2 + 1)) = cmU U (k + k2)) := hs2
              have dAB2 : (A2 != B2) = false := by simpa using hAB2
              clear hs2
              go_wp2
              go_roundw
              case rel => exact ⟨k2 + 1, by omega, by omega, by go_num, by rw [HS2.out], by rw [HS2.out]; omega, by rw [HS2.out]; exact HC, HB⟩
              case measure => simp [intOf]; omega
            case neg =>
              have hs2 : cmU U (k + k2 + 1) = cmU U (k + k2) ++ [U (k + k2)] := cmU_more (by omega) (by rw [HA2.out, HKN.out, HB2.out]; exact hAB2)
              rw [HA2.out] at hs2
              have HS2 : Hid (cmU U (k + (k2 + 1)) = cmU U (k + k2) ++ [A2]) := hs2
              have dAB2 : (A2 != B2) = true := by simpa using hAB2
              clear hs2
              have di2 := HC.out.at (j := k + k2) (by omega) (by omega)
              rw [HA2.out] at di2
              obtain ⟨l, hl0⟩ : ∃ l, (cmU U (k + k2)).length = l := ⟨_, rfl⟩
              have lm : l < m := by omega
              have lmi : (l : Int) < (m : Int) := by omega
              have ff := HC.out.2.2 l
              have cl := HC.out.2.1 l lm
              have HL0 : Hid ((cmU U (k + k2)).length = l) := hl0
              rw [hl0]
              obtain ⟨X, hX⟩ : ∃ X, (if l < (cmU U (k + k2)).length then (cmU U (k + k2)).getD l 0 else U l) = X := ⟨_, rfl⟩
              rw [hX] at cl
              clear hX hl0
              go_upto_region 13 with fail
              obtain ⟨wz, hwz⟩ : ∃ z, z = y0_.setCell ⟨g, l, none⟩ (.int .i64 A2) := ⟨_, rfl⟩
              rw [← hwz]
              have HC9 : Hid (CmA g m U (cmU U (k + (k2 + 1))) wz) := by
                show CmA _ _ _ _ _
                rw [hwz, HS2.out, ← HL0.out]
                exact HC.out.push A2 (by rw [HL0.out]; exact lm)
              have HB9 : Hid (Beside g w wz) := by show Beside _ _ _; rw [hwz]; exact HB.out.trans (Beside.setCell g _ _ _)
              have HL9 : Hid ((cmU U (k + (k2 + 1))).length = l + 1) := by show _ = _; rw [HS2.out, List.length_append, HL0.out]; rfl
              have hl9 : l + 1 ≤ k + (k2 + 1) - 1 := by have := HL0.out; omega
              clear hwz di2 ff cl HC HB HS2 HL0
              go_wp2
              go_roundw
              case rel => exact ⟨k2 + 1, by omega, by omega, by go_num, by rw [HL9.out]; go_num, by rw [HL9.out]; exact hl9, HC9, HB9⟩
              case measure => simp [intOf]; omega
          case neg =>
            obtain rfl : k2 = m - k := by omega
            have ekm : k + (m - k) = m := by omega
            rw [ekm] at hl HC ⊢
            obtain ⟨l, hl0⟩ : ∃ l, (cmU U m).length = l := ⟨_, rfl⟩
            rw [hl0] at hl ⊢
            have lm : l < m := by omega
            have lmi : (l : Int) < (m : Int) := by omega
            have lmj : (l : Int) ≤ (m : Int) := by omega
            have lci : (l : Int) ≤ (cap : Int) := by omega
            have hcl0 : ¬ cap = l := by omega
            have nlt : ¬ ((m - k : Nat) : Int) < ((m - k : Nat) : Int) := by omega
            have hcl : ∀ ty, (Builtin.clear_ #[27] ty #[.slice (some ⟨g, l, none⟩) (m - l) (cap - l)]).run Try.prog wb = .ok (.tuple #[]) (wb.setCells g l (List.replicate (m - l) (.int .i64 0))) :=
              fun ty => Lib.run_clear_slice wb 27 2 ty (.int .i64 0) Try.underlying27 zv rfl rfl g l (m - l) (cap - l) (by omega) (fun j hj => by rw [HC.out.2.1 (l + j) (by omega)]; rfl) (fun j hj => HC.out.2.2 (l + j))
            have HP : Hid (CpPost g cap m U w (.returned (.slice (some ⟨g, 0, none⟩) l cap)) (wb.setCells g l (List.replicate (m - l) (.int .i64 0)))) := by
              show CpPost _ _ _ _ _ _ _
              unfold CpPost
              have bs := beside_setCells g (List.replicate (m - l) (.int .i64 0)) l wb
              rw [hl0]
              refine ⟨rfl, Nat.lt_of_lt_of_le HC.out.1 bs.2.2.2.1, fun j hj => ?_, fun j => by rw [World.frozen?_setCells]; exact HC.out.2.2 j, HB.out.trans bs⟩
              rw [World.cell?_setCells_out g _ l wb ⟨g, j, none⟩ (fun _ _ => .inl hj)]
              have := HC.out.2.1 j (by omega)
              rw [hl0, if_pos hj] at this
              exact this
            clear HC HB hl0 hl HMK zv
            go_wp2
            go_ret
            exact HP.out
end Go.Proofs.Ytlkegoofpmgcjaa
