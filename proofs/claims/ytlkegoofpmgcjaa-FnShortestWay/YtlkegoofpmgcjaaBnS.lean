/-
What is proved: what the specification's Bound answers: the same.
-/
import Derived.Test.YtlkegoofpmgcjaaBnI
namespace Go.Proofs.Ytlkegoofpmgcjaa
set_option maxRecDepth 40000
open Go.ChangeShapes Go.WideShapes Go.ChangeAt Go.RowKit
set_option linter.unusedVariables false
set_option linter.unusedSimpArgs false

theorem tab_out {V : Nat → Int} : ∀ (l : List Nat) (p : Nat), (∀ q, q ∈ l → q ≠ p) → tabR V l p = 0
  | [], p, _ => rfl
  | q :: l, p, h => by
    unfold tabR updI
    rw [if_neg (fun e => h q (List.mem_cons_self ..) e.symm)]
    exact tab_out l p (fun r hr => h r (List.mem_cons_of_mem _ hr))
theorem dA_not {n : Nat} {hn : 0 < n} {p : Nat} : ∀ q, q ∈ pls (dA n hn (n - 1 - p)) → q ≠ p := fun q hq => by
  simp only [pls, dA, List.mem_reverse, List.mem_map, List.mem_range] at hq
  obtain ⟨x, ⟨j, hj, rfl⟩, rfl⟩ := hq
  simp only
  omega
theorem updI_same (T : Nat → Int) (p : Nat) (x : Int) : updI T p x p = x := by unfold updI; rw [if_pos rfl]
theorem updI_off (T : Nat → Int) {p j : Nat} (x : Int) (h : j ≠ p) : updI T p x j = T j := by unfold updI; rw [if_neg h]
theorem updI_twice (T : Nat → Int) (p : Nat) (x y : Int) : updI (updI T p x) p y = updI T p y := by
  funext j
  unfold updI
  by_cases e : j = p
  · rw [if_pos e, if_pos e]
  · rw [if_neg e, if_neg e, if_neg e]
theorem updI_self (T : Nat → Int) (p : Nat) : updI T p (T p) = T := by
  funext j
  unfold updI
  by_cases e : j = p
  · rw [if_pos e, e]
  · rw [if_neg e]
/-- What has been found of a place behind j of its two ways. -/
def mst (T : Nat → Int) (X3 X4 : Int) : Nat → Int
  | 0 => 0
  | 1 => gAt T X3
  | _ => max (gAt T X3) (gAt T X4)
def toX (X3 X4 : Int) (j : Nat) : Int := if j = 0 then X3 else X4
theorem mst_on {T : Nat → Int} {B X3 X4 : Int} (h : ∀ i, 0 ≤ T i ∧ T i ≤ B) {j : Nat} (hj : j < 2) : mst T X3 X4 (j + 1) = max (mst T X3 X4 j) (gAt T (toX X3 X4 j)) := by
  have h3 := gAt_in h X3
  rcases (show j = 0 ∨ j = 1 by omega) with rfl | rfl
  · show gAt T X3 = max 0 (gAt T X3)
    omega
  · rfl
theorem mst_in {T : Nat → Int} {B : Int} (h : ∀ i, 0 ≤ T i ∧ T i ≤ B) (X3 X4 : Int) (j : Nat) : 0 ≤ mst T X3 X4 j ∧ mst T X3 X4 j ≤ B := by
  have h3 := gAt_in h X3
  have h4 := gAt_in h X4
  have h0 := h 0
  unfold mst
  split <;> omega
theorem mst_pos {T : Nat → Int} {B X3 X4 : Int} (h : ∀ i, 0 ≤ T i ∧ T i ≤ B) (j : Nat) : 0 ≤ mst T X3 X4 j := (mst_in h X3 X4 j).1
theorem TabAt.put {n0 bf n p : Nat} {W0 W : World} {T : Nat → Int} {x y : Int} (h : TabAt n0 bf W0 n (updI T p x) W) (hf : bf < n0) (hp : p < n) : TabAt n0 bf W0 n (updI T p y) (W.setCell ⟨bf, p, none⟩ (.int .i64 y)) := by
  have := h.set hf hp y
  rw [updI_twice] at this
  exact this
set_option maxRecDepth 20000 in
set_option maxHeartbeats 8000000 in
theorem specBound_yes (s : Option Addr) (n c : Nat) (V : Nat → Int) (w : World) (hn0 : (n : Int) ≤ 1048576) (HR : Hid (RowI w s (n * 5) V)) (hp : planB n V = true) (hn : 0 < n) (h40 : (n : Int) ≤ 40) :
    Calls Try.prog 25 #[.slice s n c] w fun e w' => e = .returned (.int .i64 (tabR V (pls (dA n hn n)) 0)) ∧ Below w.heap.size w w' := by
  have HP : Hid (planB n V = true) := hp
  have hmk := make_i64w n (by omega)
  go_enter Try.func25, Try.ntmps25
  go_wp2_with fail
  refine (specPlanOk_any s n c V w hn0 HR).mono ?_
  rintro e w1 ⟨rfl, b1⟩
  rw [hp]
  have HR1 : Hid (RowI w1 s (n * 5) V) := HR.out.below b1
  clear hp HR
  go_upto_region 4 with fail
  obtain ⟨W0, hW0⟩ : ∃ z, z = w1.alloc (.cells (madeCells #[.int .i64 0] n) 2) := ⟨_, rfl⟩
  rw [← hW0]
  have bb : Below w1.heap.size w1 W0 := by rw [hW0]; exact below0 _ _
  have cf : ∀ j, j < n → W0.cell? ⟨w1.heap.size, j, none⟩ = some (.int .i64 0) := fun j hj => by
    rw [hW0]
    simp [go_sem, madeCells, hj]
    rw [Nat.mod_one]
    rfl
  have ff : ∀ j, W0.frozen? ⟨w1.heap.size, j, none⟩ = false := fun j => by rw [hW0]; simp [go_sem]
  have sz : W0.heap.size = w1.heap.size + 1 := by rw [hW0]; simp
  obtain ⟨bf, hbf⟩ : ∃ z, z = w1.heap.size := ⟨_, rfl⟩
  rw [← hbf] at cf ff ⊢
  have HRW : Hid (RowI W0 s (n * 5) V) := HR1.out.below bb
  have HB0 : Hid (Below w.heap.size w W0) := b1.trans (bb.mono b1.size)
  obtain ⟨n0, hn0'⟩ : ∃ z, z = W0.heap.size := ⟨_, rfl⟩
  have lf : bf < n0 := by omega
  have lw : w.heap.size ≤ bf := by have := b1.size; omega
  obtain ⟨b, o, hs, hbz, -⟩ := HR1.out 0 (by omega)
  subst hs
  have HCS : Hid (∀ j, j < n * 5 → W0.cell? ⟨b, o + j, none⟩ = some (.int .i64 (V j))) := fun j hj => by
    obtain ⟨b', o', e, hz, hc⟩ := HRW.out j hj
    cases e
    exact hc
  have hbf2 : b ≠ bf := by omega
  have hb0 : b < n0 := by omega
  have HT0 : Hid (TabAt n0 bf W0 n (tabR V (pls (dA n hn 0))) W0) := ⟨KpB.refl _ _ _, fun j hj => cf j hj, ff, by omega⟩
  clear hmk hW0 bb cf ff sz hbf HR1 HRW hbz hn0' b1
  go_wp2_with fail
  go_loopw [4] (fun i wx => ∃ k : Nat, k ≤ n ∧ i = .int .i64 ((k : Int) - 1) ∧ Hid (TabAt n0 bf W0 n (tabR V (pls (dA n hn (n - k)))) wx) ∧ Hid (Below w.heap.size w wx)) (fun i _ => ((intOf i) + 1).toNat)
  case atStart => exact ⟨n, Nat.le_refl _, rfl, by rw [Nat.sub_self]; exact HT0, HB0⟩
  case round =>
    clear HT0 HB0
    obtain ⟨k, hk, rfl, HT, HB⟩ := hrel
    cases k with
    | zero =>
      rw [Nat.sub_zero] at HT
      have c0 := HT.out.2.1 0 hn
      have n1 : (0 : Int) < (n : Int) := by omega
      have BF := HB.out
      go_wp2
      go_ret
      exact ⟨rfl, BF⟩
    | succ p =>
      have e : (((p + 1 : Nat) : Int) - 1) = (p : Int) := by omega
      have hpn : p < n := by omega
      have hpi : (p : Int) < (n : Int) := by omega
      have hp0 : (0 : Int) ≤ (p : Int) := by omega
      rw [e]
      clear e
      rw [show n - (p + 1) = n - 1 - p by omega] at HT
      have hin := tab_in HP.out (pls (dA n hn (n - 1 - p))) (pls_in _)
      rw [pls_len, dA_len] at hin
      have hz : tabR V (pls (dA n hn (n - 1 - p))) p = 0 := tab_out _ _ dA_not
      have to3 := pln_to HP.out hpn 3 (.inl rfl)
      have to4 := pln_to HP.out hpn 4 (.inr rfl)
      have hlim := pln_lim HP.out hpn
      have HN : Hid (tabR V (pls (dA n hn (n - p))) = updI (tabR V (pls (dA n hn (n - 1 - p)))) p (bndS V (tabR V (pls (dA n hn (n - 1 - p)))) p)) := by
        show _ = _
        rw [show n - p = n - 1 - p + 1 by omega, dA_succ, pls_snoc]
        simp only [tabR]
        rw [show n - 1 - (n - 1 - p) = p by omega]
      obtain ⟨T, hT⟩ : ∃ z, tabR V (pls (dA n hn (n - 1 - p))) = z := ⟨_, rfl⟩
      rw [hT] at HT hin hz HN
      clear hT
      have HIN : Hid (∀ i, 0 ≤ T i ∧ T i ≤ 1000 * ((n - 1 - p : Nat) : Int)) := hin
      obtain ⟨Lm, hLm⟩ : ∃ z, V (p * 5 + 2) = z := ⟨_, rfl⟩
      obtain ⟨X3, hX3⟩ : ∃ z, V (p * 5 + 3) = z := ⟨_, rfl⟩
      obtain ⟨X4, hX4⟩ : ∃ z, V (p * 5 + 4) = z := ⟨_, rfl⟩
      have HBS : Hid (bndS V T p = Lm + mst T X3 X4 2) := by show _ = _; unfold bndS mst; rw [hLm, hX3, hX4]; rfl
      have cs2 := HCS.out (p * 5 + 2) (by omega)
      have cs3 := HCS.out (p * 5 + 3) (by omega)
      have cs4 := HCS.out (p * 5 + 4) (by omega)
      rw [← Nat.add_assoc] at cs2 cs3 cs4
      rw [hLm] at cs2 hlim
      rw [hX3] at cs3 to3
      rw [hX4] at cs4 to4
      have HC2 : Hid (W0.cell? ⟨b, o + p * 5 + 2, none⟩ = some (.int .i64 Lm)) := cs2
      have HC3 : Hid (W0.cell? ⟨b, o + p * 5 + 3, none⟩ = some (.int .i64 X3)) := cs3
      have HC4 : Hid (W0.cell? ⟨b, o + p * 5 + 4, none⟩ = some (.int .i64 X4)) := cs4
      have HT3 : Hid ((modB X3 = true ∧ -3 ≤ X3 ∧ X3 ≤ -1) ∨ (modB X3 = false ∧ (p : Int) + 1 ≤ X3 ∧ X3 ≤ (n : Int) - 1)) := to3
      have HT4 : Hid ((modB X4 = true ∧ -3 ≤ X4 ∧ X4 ≤ -1) ∨ (modB X4 = false ∧ (p : Int) + 1 ≤ X4 ∧ X4 ≤ (n : Int) - 1)) := to4
      have HM : Hid (TabAt n0 bf W0 n (updI T p (mst T X3 X4 0)) wr) := by
        show TabAt _ _ _ _ _ _
        have : updI T p (mst T X3 X4 0) = T := by show updI T p 0 = T; rw [← hz]; exact updI_self T p
        rw [this]
        exact HT.out
      clear hLm hX3 hX4 cs2 cs3 cs4 to3 to4 hz hin HT
      rename World => wa
      go_wp2_with fail
      go_loopw [5] (fun q wx => ∃ j : Nat, j ≤ 2 ∧ q = .int .i64 (j : Int) ∧ Hid (TabAt n0 bf W0 n (updI T p (mst T X3 X4 j)) wx) ∧ Hid (Below w.heap.size w wx)) (fun q _ => 2 - (intOf q).toNat)
      case atStart => exact ⟨0, by omega, rfl, HM, HB⟩
      case round =>
        clear HM HB
        obtain ⟨j, hj, rfl, HM, HB⟩ := hrel
        by_cases hjl : j < 2
        case pos =>
          have j1 : (j : Int) < 2 := by omega
          have hmo := mst_on (X3 := X3) (X4 := X4) HIN.out hjl
          have HMO : Hid (mst T X3 X4 (j + 1) = max (mst T X3 X4 j) (gAt T (toX X3 X4 j))) := hmo
          have HTX : Hid ((modB (toX X3 X4 j) = true ∧ -3 ≤ toX X3 X4 j ∧ toX X3 X4 j ≤ -1) ∨ (modB (toX X3 X4 j) = false ∧ (p : Int) + 1 ≤ toX X3 X4 j ∧ toX X3 X4 j ≤ (n : Int) - 1)) := by
            show _ ∨ _
            unfold toX
            split
            · exact HT3.out
            · exact HT4.out
          have e3 := (HM.out.1.cell (p := ⟨b, o + p * 5 + 3, none⟩) hb0 hbf2).trans HC3.out
          have e4 := (HM.out.1.cell (p := ⟨b, o + p * 5 + 4, none⟩) hb0 hbf2).trans HC4.out
          obtain ⟨X, hX⟩ : ∃ z, toX X3 X4 j = z := ⟨_, rfl⟩
          have hlit : (#[Value.int .i64 X3, Value.int .i64 X4] : Array Value)[j]? = some (.int .i64 X) := by
            rw [← hX]
            rcases (show j = 0 ∨ j = 1 by omega) with rfl | rfl <;> rfl
          rw [hX] at HMO HTX
          clear hX hmo
          rename World => wb
          go_upto_region 10 with fail
          refine wp_region_held_drew (S := fun w' => w'.cell? ⟨b, o + p * 5 + 3, none⟩ = some (.int .i64 X3) ∧ w'.cell? ⟨b, o + p * 5 + 4, none⟩ = some (.int .i64 X4)) (by kernel_rfl) ?_ (fun hHeld => ?_)
          · exact ⟨by simpa [go_sem] using e3, by simpa [go_sem] using e4⟩
          obtain ⟨v0, hv0⟩ : ∃ z, z = wb.drew := ⟨_, rfl⟩
          try rw [← hv0] at hHeld
          rw [← hv0]
          have bv0 : Below wb.heap.size wb v0 := by rw [hv0]; exact Below.drew (Below.refl _ _)
          clear hv0
          replace HM : Hid (TabAt n0 bf W0 n (updI T p (mst T X3 X4 j)) v0) := HM.out.below bv0 lf
          replace HB : Hid (Below w.heap.size w v0) := HB.out.trans (bv0.mono HB.out.size)
          clear bv0
          clear e3 e4
          refine wpAnyH_take (i := 0) (v := .slice (some ⟨b, o, none⟩) n c) rfl (by kernel_rfl) (by kernel_rfl) (by kernel_rfl) (fun _ _ _ h => h) (Or.inl ⟨by kernel_rfl, ?_⟩) hHeld ?_
          · intro w' hSw
            obtain ⟨s0_, s1_⟩ := hSw
            first | (go_simp; done) | (go_simp; with_reducible rfl) | (go_simp; rw [IntKind.wrap_i64]; omega) | (go_simp; omega)
          simp only [Act.put, List.setIfInBounds_toArray, List.set_cons_zero, List.set_cons_succ]
          refine wpAnyH_take (i := 1) (v := .int .i64 (p : Int)) rfl (by kernel_rfl) (by kernel_rfl) (by kernel_rfl) (fun _ _ _ h => h) (Or.inl ⟨by kernel_rfl, ?_⟩) hHeld ?_
          · intro w' hSw
            obtain ⟨s0_, s1_⟩ := hSw
            first | (go_simp; done) | (go_simp; with_reducible rfl) | (go_simp; rw [IntKind.wrap_i64]; omega) | (go_simp; omega)
          simp only [Act.put, List.setIfInBounds_toArray, List.set_cons_zero, List.set_cons_succ]
          refine wpAnyH_take (i := 2) (v := .pointer (some ⟨b, o + p * 5, none⟩)) rfl (by kernel_rfl) (by kernel_rfl) (by kernel_rfl) (fun _ _ _ h => h) (Or.inl ⟨by kernel_rfl, ?_⟩) hHeld ?_
          · intro w' hSw
            obtain ⟨s0_, s1_⟩ := hSw
            first | (go_simp; done) | (go_simp; with_reducible rfl) | (go_simp; rw [IntKind.wrap_i64]; omega) | (go_simp; omega)
          simp only [Act.put, List.setIfInBounds_toArray, List.set_cons_zero, List.set_cons_succ]
          refine wpAnyH_take (i := 3) (v := .pointer (some ⟨b, o + p * 5 + 3, none⟩)) rfl (by kernel_rfl) (by kernel_rfl) (by kernel_rfl) (fun _ _ _ h => h) (Or.inl ⟨by kernel_rfl, ?_⟩) hHeld ?_
          · intro w' hSw
            obtain ⟨s0_, s1_⟩ := hSw
            first | (go_simp; done) | (go_simp; with_reducible rfl) | (go_simp; rw [IntKind.wrap_i64]; omega) | (go_simp; omega)
          simp only [Act.put, List.setIfInBounds_toArray, List.set_cons_zero, List.set_cons_succ]
          refine wpAnyH_take (i := 4) (v := .int .i64 X3) rfl (by kernel_rfl) (by kernel_rfl) (by kernel_rfl) (fun _ _ _ h => h) (Or.inl ⟨by kernel_rfl, ?_⟩) hHeld ?_
          · intro w' hSw
            obtain ⟨s0_, s1_⟩ := hSw
            first | (go_simp; done) | (go_simp; with_reducible rfl) | (go_simp; rw [IntKind.wrap_i64]; omega) | (go_simp; omega)
          simp only [Act.put, List.setIfInBounds_toArray, List.set_cons_zero, List.set_cons_succ]
          refine wpAnyH_take (i := 5) (v := .slice (some ⟨b, o, none⟩) n c) rfl (by kernel_rfl) (by kernel_rfl) (by kernel_rfl) (fun _ _ _ h => h) (Or.inl ⟨by kernel_rfl, ?_⟩) hHeld ?_
          · intro w' hSw
            obtain ⟨s0_, s1_⟩ := hSw
            first | (go_simp; done) | (go_simp; with_reducible rfl) | (go_simp; rw [IntKind.wrap_i64]; omega) | (go_simp; omega)
          simp only [Act.put, List.setIfInBounds_toArray, List.set_cons_zero, List.set_cons_succ]
          refine wpAnyH_take (i := 6) (v := .int .i64 (p : Int)) rfl (by kernel_rfl) (by kernel_rfl) (by kernel_rfl) (fun _ _ _ h => h) (Or.inl ⟨by kernel_rfl, ?_⟩) hHeld ?_
          · intro w' hSw
            obtain ⟨s0_, s1_⟩ := hSw
            first | (go_simp; done) | (go_simp; with_reducible rfl) | (go_simp; rw [IntKind.wrap_i64]; omega) | (go_simp; omega)
          simp only [Act.put, List.setIfInBounds_toArray, List.set_cons_zero, List.set_cons_succ]
          refine wpAnyH_take (i := 7) (v := .pointer (some ⟨b, o + p * 5, none⟩)) rfl (by kernel_rfl) (by kernel_rfl) (by kernel_rfl) (fun _ _ _ h => h) (Or.inl ⟨by kernel_rfl, ?_⟩) hHeld ?_
          · intro w' hSw
            obtain ⟨s0_, s1_⟩ := hSw
            first | (go_simp; done) | (go_simp; with_reducible rfl) | (go_simp; rw [IntKind.wrap_i64]; omega) | (go_simp; omega)
          simp only [Act.put, List.setIfInBounds_toArray, List.set_cons_zero, List.set_cons_succ]
          refine wpAnyH_take (i := 8) (v := .pointer (some ⟨b, o + p * 5 + 4, none⟩)) rfl (by kernel_rfl) (by kernel_rfl) (by kernel_rfl) (fun _ _ _ h => h) (Or.inl ⟨by kernel_rfl, ?_⟩) hHeld ?_
          · intro w' hSw
            obtain ⟨s0_, s1_⟩ := hSw
            first | (go_simp; done) | (go_simp; with_reducible rfl) | (go_simp; rw [IntKind.wrap_i64]; omega) | (go_simp; omega)
          simp only [Act.put, List.setIfInBounds_toArray, List.set_cons_zero, List.set_cons_succ]
          refine wpAnyH_take (i := 9) (v := .int .i64 X4) rfl (by kernel_rfl) (by kernel_rfl) (by kernel_rfl) (fun _ _ _ h => h) (Or.inl ⟨by kernel_rfl, ?_⟩) hHeld ?_
          · intro w' hSw
            obtain ⟨s0_, s1_⟩ := hSw
            first | (go_simp; done) | (go_simp; with_reducible rfl) | (go_simp; rw [IntKind.wrap_i64]; omega) | (go_simp; omega)
          simp only [Act.put, List.setIfInBounds_toArray, List.set_cons_zero, List.set_cons_succ]
          refine wpAnyH_take (i := 11) (v := .int .i64 (j : Int)) rfl (by kernel_rfl) (by kernel_rfl) (by kernel_rfl) (fun _ _ _ h => h) (Or.inl ⟨by kernel_rfl, ?_⟩) hHeld ?_
          · intro w' hSw
            obtain ⟨s0_, s1_⟩ := hSw
            first | (go_simp; done) | (go_simp; with_reducible rfl) | (go_simp; rw [IntKind.wrap_i64]; omega) | (go_simp; omega)
          simp only [Act.put, List.setIfInBounds_toArray, List.set_cons_zero, List.set_cons_succ]
          refine wpAnyH_ready (rs := [10]) (by kernel_rfl) (by simp) ?_
          refine (AllReadyH.cons rfl (fun KK hK => ?_) AllReadyH.nil)
          go_simp
          obtain ⟨v0_1, hV_⟩ : ∃ z, z = v0.alloc (.cells #[.int .i64 X3, .int .i64 X4] 2) := ⟨_, rfl⟩
          rw [← hV_]
          have bl_ : Below v0.heap.size v0 v0_1 := by rw [hV_]; exact below0 _ _
          have lx : v0_1.cell? ⟨v0.heap.size, j, none⟩ = some (.int .i64 X) := by rw [hV_]; simp [go_sem, hlit]
          obtain ⟨g9, hg9⟩ : ∃ z, z = v0.heap.size := ⟨_, rfl⟩
          rw [← hg9] at lx ⊢
          replace HM : Hid (TabAt n0 bf W0 n (updI T p (mst T X3 X4 j)) v0_1) := HM.out.below bl_ lf
          replace HB : Hid (Below w.heap.size w v0_1) := HB.out.trans (bl_.mono HB.out.size)
          clear hV_ hg9 bl_
          refine hK.out _ _ (⟨(HM.out.1.cell (p := ⟨b, o + p * 5 + 3, none⟩) hb0 hbf2).trans HC3.out, (HM.out.1.cell (p := ⟨b, o + p * 5 + 4, none⟩) hb0 hbf2).trans HC4.out⟩) (fun hHeld => ?_)
          clear hK KK
          refine wpAnyH_take (i := 12) (v := .pointer (some ⟨g9, j, none⟩)) rfl (by kernel_rfl) (by kernel_rfl) (by kernel_rfl) (fun _ _ _ h => h) (Or.inl ⟨by kernel_rfl, ?_⟩) hHeld ?_
          · intro w' hSw
            obtain ⟨s0_, s1_⟩ := hSw
            first | (go_simp; done) | (go_simp; with_reducible rfl) | (go_simp; rw [IntKind.wrap_i64]; omega) | (go_simp; omega)
          simp only [Act.put, List.setIfInBounds_toArray, List.set_cons_zero, List.set_cons_succ]
          refine wpAnyH_ready (rs := [13]) (by kernel_rfl) (by simp) ?_
          refine (AllReadyH.cons rfl (fun KK hK => ?_) AllReadyH.nil)
          go_simp
          refine hK.out _ _ (hHeld) (fun hHeld => ?_)
          clear hK KK
          refine wpAnyH_ready (rs := [14]) (by kernel_rfl) (by simp) ?_
          refine AllReadyH.cons rfl (fun KK hK => ?_) AllReadyH.nil
          go_simp
          refine hK.out _ _ hHeld (fun hHeld => ?_)
          clear hK KK
          refine wpAnyH_done (by kernel_rfl) ?_ _
          clear hHeld
          clear lx
          rcases HTX.out with ⟨hm, x0, x1⟩ | ⟨hm, x0, x1⟩
          case inl =>
            have HM9 : Hid (TabAt n0 bf W0 n (updI T p (mst T X3 X4 (j + 1))) v0_1) := by
              show TabAt _ _ _ _ _ _
              have g0 : gAt T X = 0 := by unfold gAt; rw [if_pos hm]
              have m0 : 0 ≤ mst T X3 X4 j := mst_pos HIN.out j
              rw [HMO.out, g0, show max (mst T X3 X4 j) 0 = mst T X3 X4 j by omega]
              exact HM.out
            have xn : ¬ (0 : Int) ≤ X := by omega
            clear HTX hm x0 x1
            go_wp2
            go_roundw
            case rel => exact ⟨j + 1, by omega, by go_num, HM9, HB⟩
            case measure => simp [intOf]; omega
          case inr =>
            obtain ⟨xk, hxk⟩ : ∃ k : Nat, X = (k : Int) := ⟨X.toNat, by omega⟩
            subst hxk
            have g0 : gAt T (xk : Int) = T xk := by unfold gAt; rw [if_neg (by rw [hm]; simp)]; simp
            have xkn : xk < n := by omega
            have xkp : xk ≠ p := by omega
            have xki : (xk : Int) < (n : Int) := by omega
            have xk0 : (0 : Int) ≤ (xk : Int) := by omega
            have HG0 : Hid (gAt T (xk : Int) = T xk) := g0
            have hTk := HIN.out xk
            have hMj := mst_in HIN.out X3 X4 j
            obtain ⟨M, hM⟩ : ∃ z, mst T X3 X4 j = z := ⟨_, rfl⟩
            obtain ⟨Tk, hTk2⟩ : ∃ z, T xk = z := ⟨_, rfl⟩
            obtain ⟨mx, hmx⟩ : ∃ z : Int, (if M < Tk then Tk else M) = z := ⟨_, rfl⟩
            have HMX : Hid ((if M < Tk then Tk else M) = mx) := hmx
            have HE : Hid (mst T X3 X4 (j + 1) = mx) := by show _ = _; rw [HMO.out, HG0.out, hM, hTk2, ← max_if, hmx]
            have cx : v0_1.cell? ⟨bf, xk, none⟩ = some (.int .i64 Tk) := by have := HM.out.2.1 xk xkn; rw [updI_off _ _ xkp, hTk2] at this; exact this
            have cM : v0_1.cell? ⟨bf, p, none⟩ = some (.int .i64 M) := by have := HM.out.2.1 p hpn; rw [updI_same, hM] at this; exact this
            have CX : Hid (∀ W', TabAt n0 bf W0 n (updI T p (mst T X3 X4 j)) W' → W'.cell? ⟨bf, xk, none⟩ = some (.int .i64 Tk) ∧ W'.cell? ⟨bf, p, none⟩ = some (.int .i64 M) ∧ W'.frozen? ⟨bf, p, none⟩ = false) := fun W' h => ⟨by have := h.2.1 xk xkn; rw [updI_off _ _ xkp, hTk2] at this; exact this, by have := h.2.1 p hpn; rw [updI_same, hM] at this; exact this, h.2.2.1 p⟩
            clear HTX hm x0 x1 g0 hM hTk hTk2 hmx hMj HG0 cM
            go_upto_region 12 with fail
            refine wp_region_held_drew (S := fun w' => w'.cell? ⟨bf, xk, none⟩ = some (.int .i64 Tk)) (by kernel_rfl) ?_ (fun hHeld => ?_)
            · simpa [go_sem] using cx
            obtain ⟨y0_, hv0⟩ : ∃ z, z = v0_1.drew := ⟨_, rfl⟩
            try rw [← hv0] at hHeld
            rw [← hv0]
            have bv0 : Below v0_1.heap.size v0_1 y0_ := by rw [hv0]; exact Below.drew (Below.refl _ _)
            clear hv0
            replace HM : Hid (TabAt n0 bf W0 n (updI T p (mst T X3 X4 j)) y0_) := HM.out.below bv0 lf
            replace HB : Hid (Below w.heap.size w y0_) := HB.out.trans (bv0.mono HB.out.size)
            clear bv0
            have cp_ := (CX.out y0_ HM.out).2.1
            have fp_ := (CX.out y0_ HM.out).2.2
            clear cx
            refine wpAnyH_take (i := 0) (v := .slice (some ⟨bf, 0, none⟩) n n) rfl (by kernel_rfl) (by kernel_rfl) (by kernel_rfl) (fun _ _ _ h => h) (Or.inl ⟨by kernel_rfl, ?_⟩) hHeld ?_
            · intro w' hSw
              first | (go_simp; done) | (go_simp; with_reducible rfl) | (go_simp; rw [IntKind.wrap_i64]; omega) | (go_simp; omega)
            simp only [Act.put, List.setIfInBounds_toArray, List.set_cons_zero, List.set_cons_succ]
            refine wpAnyH_take (i := 1) (v := .int .i64 (p : Int)) rfl (by kernel_rfl) (by kernel_rfl) (by kernel_rfl) (fun _ _ _ h => h) (Or.inl ⟨by kernel_rfl, ?_⟩) hHeld ?_
            · intro w' hSw
              first | (go_simp; done) | (go_simp; with_reducible rfl) | (go_simp; rw [IntKind.wrap_i64]; omega) | (go_simp; omega)
            simp only [Act.put, List.setIfInBounds_toArray, List.set_cons_zero, List.set_cons_succ]
            refine wpAnyH_take (i := 2) (v := .slice (some ⟨bf, 0, none⟩) n n) rfl (by kernel_rfl) (by kernel_rfl) (by kernel_rfl) (fun _ _ _ h => h) (Or.inl ⟨by kernel_rfl, ?_⟩) hHeld ?_
            · intro w' hSw
              first | (go_simp; done) | (go_simp; with_reducible rfl) | (go_simp; rw [IntKind.wrap_i64]; omega) | (go_simp; omega)
            simp only [Act.put, List.setIfInBounds_toArray, List.set_cons_zero, List.set_cons_succ]
            refine wpAnyH_take (i := 3) (v := .int .i64 (p : Int)) rfl (by kernel_rfl) (by kernel_rfl) (by kernel_rfl) (fun _ _ _ h => h) (Or.inl ⟨by kernel_rfl, ?_⟩) hHeld ?_
            · intro w' hSw
              first | (go_simp; done) | (go_simp; with_reducible rfl) | (go_simp; rw [IntKind.wrap_i64]; omega) | (go_simp; omega)
            simp only [Act.put, List.setIfInBounds_toArray, List.set_cons_zero, List.set_cons_succ]
            refine wpAnyH_take (i := 4) (v := .pointer (some ⟨bf, p, none⟩)) rfl (by kernel_rfl) (by kernel_rfl) (by kernel_rfl) (fun _ _ _ h => h) (Or.inl ⟨by kernel_rfl, ?_⟩) hHeld ?_
            · intro w' hSw
              first | (go_simp; done) | (go_simp; with_reducible rfl) | (go_simp; rw [IntKind.wrap_i64]; omega) | (go_simp; omega)
            simp only [Act.put, List.setIfInBounds_toArray, List.set_cons_zero, List.set_cons_succ]
            refine wpAnyH_take (i := 6) (v := .slice (some ⟨bf, 0, none⟩) n n) rfl (by kernel_rfl) (by kernel_rfl) (by kernel_rfl) (fun _ _ _ h => h) (Or.inl ⟨by kernel_rfl, ?_⟩) hHeld ?_
            · intro w' hSw
              first | (go_simp; done) | (go_simp; with_reducible rfl) | (go_simp; rw [IntKind.wrap_i64]; omega) | (go_simp; omega)
            simp only [Act.put, List.setIfInBounds_toArray, List.set_cons_zero, List.set_cons_succ]
            refine wpAnyH_take (i := 7) (v := .int .i64 (xk : Int)) rfl (by kernel_rfl) (by kernel_rfl) (by kernel_rfl) (fun _ _ _ h => h) (Or.inl ⟨by kernel_rfl, ?_⟩) hHeld ?_
            · intro w' hSw
              first | (go_simp; done) | (go_simp; with_reducible rfl) | (go_simp; rw [IntKind.wrap_i64]; omega) | (go_simp; omega)
            simp only [Act.put, List.setIfInBounds_toArray, List.set_cons_zero, List.set_cons_succ]
            refine wpAnyH_take (i := 8) (v := .pointer (some ⟨bf, xk, none⟩)) rfl (by kernel_rfl) (by kernel_rfl) (by kernel_rfl) (fun _ _ _ h => h) (Or.inl ⟨by kernel_rfl, ?_⟩) hHeld ?_
            · intro w' hSw
              first | (go_simp; done) | (go_simp; with_reducible rfl) | (go_simp; rw [IntKind.wrap_i64]; omega) | (go_simp; omega)
            simp only [Act.put, List.setIfInBounds_toArray, List.set_cons_zero, List.set_cons_succ]
            refine wpAnyH_take (i := 9) (v := .int .i64 Tk) rfl (by kernel_rfl) (by kernel_rfl) (by kernel_rfl) (fun _ _ _ h => h) (Or.inl ⟨by kernel_rfl, ?_⟩) hHeld ?_
            · intro w' hSw
              first | (go_simp; done) | (go_simp; with_reducible rfl) | (go_simp; rw [IntKind.wrap_i64]; omega) | (go_simp; omega)
            simp only [Act.put, List.setIfInBounds_toArray, List.set_cons_zero, List.set_cons_succ]
            refine wpAnyH_ready (rs := [5]) (by kernel_rfl) (by simp) ?_
            refine (AllReadyH.cons rfl (fun KK hK => ?_) AllReadyH.nil)
            go_simp
            refine hK.out _ _ (hHeld) (fun hHeld => ?_)
            clear hK KK
            refine wpAnyH_take (i := 10) (v := .int .i64 mx) rfl (by kernel_rfl) (by kernel_rfl) (by kernel_rfl) (fun _ _ _ h => h) (Or.inl ⟨by kernel_rfl, ?_⟩) hHeld ?_
            · intro w' hSw
              (rw [← HMX.out]; first | kernel_rfl | (go_simp; done) | (go_simp; split <;> rfl) | (split <;> go_simp))
            simp only [Act.put, List.setIfInBounds_toArray, List.set_cons_zero, List.set_cons_succ]
            refine wpAnyH_take (i := 11) (v := .pointer (some ⟨bf, p, none⟩)) rfl (by kernel_rfl) (by kernel_rfl) (by kernel_rfl) (fun _ _ _ h => h) (Or.inl ⟨by kernel_rfl, ?_⟩) hHeld ?_
            · intro w' hSw
              first | (go_simp; done) | (go_simp; with_reducible rfl) | (go_simp; rw [IntKind.wrap_i64]; omega) | (go_simp; omega)
            simp only [Act.put, List.setIfInBounds_toArray, List.set_cons_zero, List.set_cons_succ]
            refine wpAnyH_ready (rs := [12]) (by kernel_rfl) (by simp) ?_
            refine (AllReadyH.cons rfl (fun KK hK => ?_) AllReadyH.nil)
            go_simp
            obtain ⟨y0__2, hV_⟩ : ∃ z, z = y0_.setCell ⟨bf, p, none⟩ (.int .i64 mx) := ⟨_, rfl⟩
            rw [← hV_]
            have HM9 : Hid (TabAt n0 bf W0 n (updI T p (mst T X3 X4 (j + 1))) y0__2) := by
              show TabAt _ _ _ _ _ _
              rw [hV_, HE.out]
              exact HM.out.put lf hpn
            have BS9 : Hid (Beside bf y0_ y0__2) := by show Beside _ _ _; rw [hV_]; exact Beside.setCell bf _ _ _
            have cx9 : y0__2.cell? ⟨bf, xk, none⟩ = some (.int .i64 Tk) := by rw [hV_]; exact (World.cell?_setCell_other _ _ _ _ (by intro q; cases q; exact xkp rfl)).trans hHeld
            clear hV_
            refine hK.out _ _ (cx9) (fun hHeld => ?_)
            clear hK KK
            refine wpAnyH_done (by kernel_rfl) ?_ _
            clear hHeld
            have HB9 : Hid (Below w.heap.size w y0__2) := HB.out.trans (BS9.out.below lw HB.out.size)
            clear BS9 cp_ fp_ cx9
            go_wp2
            go_roundw
            case rel => exact ⟨j + 1, by omega, by go_num, HM9, HB9⟩
            case measure => simp [intOf]; omega
        case neg =>
          obtain rfl : j = 2 := by omega
          clear hj hjl
          rename World => wc
          have hM2 := mst_in HIN.out X3 X4 2
          obtain ⟨M, hM⟩ : ∃ z, mst T X3 X4 2 = z := ⟨_, rfl⟩
          rw [hM] at hM2 HBS HM
          have cM : wc.cell? ⟨bf, p, none⟩ = some (.int .i64 M) := by have := HM.out.2.1 p hpn; rw [updI_same] at this; exact this
          have CX : Hid (∀ W', TabAt n0 bf W0 n (updI T p M) W' → W'.cell? ⟨bf, p, none⟩ = some (.int .i64 M) ∧ W'.frozen? ⟨bf, p, none⟩ = false) := fun W' h => ⟨by have := h.2.1 p hpn; rw [updI_same] at this; exact this, h.2.2.1 p⟩
          have e2 := (HM.out.1.cell (p := ⟨b, o + p * 5 + 2, none⟩) hb0 hbf2).trans HC2.out
          have hM3 : 0 ≤ M ∧ M ≤ 1000000 := by omega
          have HNP : Hid (updI T p (M + Lm) = tabR V (pls (dA n hn (n - p)))) := by show _ = _; rw [HN.out, HBS.out, Int.add_comm]
          have nx : ((2 : Nat) : Int) = 2 := rfl
          clear hM hM2 HIN HT3 HT4 cM
          go_upto_region 13 with fail
          refine wp_region_held_drew (S := fun w' => w'.cell? ⟨b, o + p * 5 + 2, none⟩ = some (.int .i64 Lm)) (by kernel_rfl) ?_ (fun hHeld => ?_)
          · simpa [go_sem] using e2
          obtain ⟨z0_, hv0⟩ : ∃ z, z = wc.drew := ⟨_, rfl⟩
          try rw [← hv0] at hHeld
          rw [← hv0]
          have bv0 : Below wc.heap.size wc z0_ := by rw [hv0]; exact Below.drew (Below.refl _ _)
          clear hv0
          replace HM : Hid (TabAt n0 bf W0 n (updI T p M) z0_) := HM.out.below bv0 lf
          replace HB : Hid (Below w.heap.size w z0_) := HB.out.trans (bv0.mono HB.out.size)
          clear bv0
          have cp_ := (CX.out z0_ HM.out).1
          have fp_ := (CX.out z0_ HM.out).2
          clear e2
          refine wpAnyH_take (i := 0) (v := .slice (some ⟨bf, 0, none⟩) n n) rfl (by kernel_rfl) (by kernel_rfl) (by kernel_rfl) (fun _ _ _ h => h) (Or.inl ⟨by kernel_rfl, ?_⟩) hHeld ?_
          · intro w' hSw
            first | (go_simp; done) | (go_simp; with_reducible rfl) | (go_simp; rw [IntKind.wrap_i64]; omega) | (go_simp; omega)
          simp only [Act.put, List.setIfInBounds_toArray, List.set_cons_zero, List.set_cons_succ]
          refine wpAnyH_take (i := 1) (v := .int .i64 (p : Int)) rfl (by kernel_rfl) (by kernel_rfl) (by kernel_rfl) (fun _ _ _ h => h) (Or.inl ⟨by kernel_rfl, ?_⟩) hHeld ?_
          · intro w' hSw
            first | (go_simp; done) | (go_simp; with_reducible rfl) | (go_simp; rw [IntKind.wrap_i64]; omega) | (go_simp; omega)
          simp only [Act.put, List.setIfInBounds_toArray, List.set_cons_zero, List.set_cons_succ]
          refine wpAnyH_take (i := 2) (v := .slice (some ⟨bf, 0, none⟩) n n) rfl (by kernel_rfl) (by kernel_rfl) (by kernel_rfl) (fun _ _ _ h => h) (Or.inl ⟨by kernel_rfl, ?_⟩) hHeld ?_
          · intro w' hSw
            first | (go_simp; done) | (go_simp; with_reducible rfl) | (go_simp; rw [IntKind.wrap_i64]; omega) | (go_simp; omega)
          simp only [Act.put, List.setIfInBounds_toArray, List.set_cons_zero, List.set_cons_succ]
          refine wpAnyH_take (i := 3) (v := .int .i64 (p : Int)) rfl (by kernel_rfl) (by kernel_rfl) (by kernel_rfl) (fun _ _ _ h => h) (Or.inl ⟨by kernel_rfl, ?_⟩) hHeld ?_
          · intro w' hSw
            first | (go_simp; done) | (go_simp; with_reducible rfl) | (go_simp; rw [IntKind.wrap_i64]; omega) | (go_simp; omega)
          simp only [Act.put, List.setIfInBounds_toArray, List.set_cons_zero, List.set_cons_succ]
          refine wpAnyH_take (i := 4) (v := .pointer (some ⟨bf, p, none⟩)) rfl (by kernel_rfl) (by kernel_rfl) (by kernel_rfl) (fun _ _ _ h => h) (Or.inl ⟨by kernel_rfl, ?_⟩) hHeld ?_
          · intro w' hSw
            first | (go_simp; done) | (go_simp; with_reducible rfl) | (go_simp; rw [IntKind.wrap_i64]; omega) | (go_simp; omega)
          simp only [Act.put, List.setIfInBounds_toArray, List.set_cons_zero, List.set_cons_succ]
          refine wpAnyH_take (i := 6) (v := .slice (some ⟨b, o, none⟩) n c) rfl (by kernel_rfl) (by kernel_rfl) (by kernel_rfl) (fun _ _ _ h => h) (Or.inl ⟨by kernel_rfl, ?_⟩) hHeld ?_
          · intro w' hSw
            first | (go_simp; done) | (go_simp; with_reducible rfl) | (go_simp; rw [IntKind.wrap_i64]; omega) | (go_simp; omega)
          simp only [Act.put, List.setIfInBounds_toArray, List.set_cons_zero, List.set_cons_succ]
          refine wpAnyH_take (i := 7) (v := .int .i64 (p : Int)) rfl (by kernel_rfl) (by kernel_rfl) (by kernel_rfl) (fun _ _ _ h => h) (Or.inl ⟨by kernel_rfl, ?_⟩) hHeld ?_
          · intro w' hSw
            first | (go_simp; done) | (go_simp; with_reducible rfl) | (go_simp; rw [IntKind.wrap_i64]; omega) | (go_simp; omega)
          simp only [Act.put, List.setIfInBounds_toArray, List.set_cons_zero, List.set_cons_succ]
          refine wpAnyH_take (i := 8) (v := .pointer (some ⟨b, o + p * 5, none⟩)) rfl (by kernel_rfl) (by kernel_rfl) (by kernel_rfl) (fun _ _ _ h => h) (Or.inl ⟨by kernel_rfl, ?_⟩) hHeld ?_
          · intro w' hSw
            first | (go_simp; done) | (go_simp; with_reducible rfl) | (go_simp; rw [IntKind.wrap_i64]; omega) | (go_simp; omega)
          simp only [Act.put, List.setIfInBounds_toArray, List.set_cons_zero, List.set_cons_succ]
          refine wpAnyH_take (i := 9) (v := .pointer (some ⟨b, o + p * 5 + 2, none⟩)) rfl (by kernel_rfl) (by kernel_rfl) (by kernel_rfl) (fun _ _ _ h => h) (Or.inl ⟨by kernel_rfl, ?_⟩) hHeld ?_
          · intro w' hSw
            first | (go_simp; done) | (go_simp; with_reducible rfl) | (go_simp; rw [IntKind.wrap_i64]; omega) | (go_simp; omega)
          simp only [Act.put, List.setIfInBounds_toArray, List.set_cons_zero, List.set_cons_succ]
          refine wpAnyH_take (i := 10) (v := .int .i64 Lm) rfl (by kernel_rfl) (by kernel_rfl) (by kernel_rfl) (fun _ _ _ h => h) (Or.inl ⟨by kernel_rfl, ?_⟩) hHeld ?_
          · intro w' hSw
            first | (go_simp; done) | (go_simp; with_reducible rfl) | (go_simp; rw [IntKind.wrap_i64]; omega) | (go_simp; omega)
          simp only [Act.put, List.setIfInBounds_toArray, List.set_cons_zero, List.set_cons_succ]
          refine wpAnyH_ready (rs := [5]) (by kernel_rfl) (by simp) ?_
          refine (AllReadyH.cons rfl (fun KK hK => ?_) AllReadyH.nil)
          go_simp
          refine hK.out _ _ (hHeld) (fun hHeld => ?_)
          clear hK KK
          refine wpAnyH_take (i := 11) (v := .int .i64 (M + Lm)) rfl (by kernel_rfl) (by kernel_rfl) (by kernel_rfl) (fun _ _ _ h => h) (Or.inl ⟨by kernel_rfl, ?_⟩) hHeld ?_
          · intro w' hSw
            first | (go_simp; done) | (go_simp; with_reducible rfl) | (go_simp; rw [IntKind.wrap_i64]; omega) | (go_simp; omega)
          simp only [Act.put, List.setIfInBounds_toArray, List.set_cons_zero, List.set_cons_succ]
          refine wpAnyH_take (i := 12) (v := .pointer (some ⟨bf, p, none⟩)) rfl (by kernel_rfl) (by kernel_rfl) (by kernel_rfl) (fun _ _ _ h => h) (Or.inl ⟨by kernel_rfl, ?_⟩) hHeld ?_
          · intro w' hSw
            first | (go_simp; done) | (go_simp; with_reducible rfl) | (go_simp; rw [IntKind.wrap_i64]; omega) | (go_simp; omega)
          simp only [Act.put, List.setIfInBounds_toArray, List.set_cons_zero, List.set_cons_succ]
          refine wpAnyH_ready (rs := [13]) (by kernel_rfl) (by simp) ?_
          refine (AllReadyH.cons rfl (fun KK hK => ?_) AllReadyH.nil)
          go_simp
          obtain ⟨z0__2, hV_⟩ : ∃ z, z = z0_.setCell ⟨bf, p, none⟩ (.int .i64 (M + Lm)) := ⟨_, rfl⟩
          rw [← hV_]
          have HM9 : Hid (TabAt n0 bf W0 n (tabR V (pls (dA n hn (n - p)))) z0__2) := by
            show TabAt _ _ _ _ _ _
            rw [hV_, ← HNP.out]
            exact HM.out.put lf hpn
          have BS9 : Hid (Beside bf z0_ z0__2) := by show Beside _ _ _; rw [hV_]; exact Beside.setCell bf _ _ _
          clear hV_
          refine hK.out _ _ ((HM9.out.1.cell (p := ⟨b, o + p * 5 + 2, none⟩) hb0 hbf2).trans HC2.out) (fun hHeld => ?_)
          clear hK KK
          refine wpAnyH_done (by kernel_rfl) ?_ _
          clear hHeld
          have HB9 : Hid (Below w.heap.size w z0__2) := HB.out.trans (BS9.out.below lw HB.out.size)
          clear BS9 cp_ fp_
          go_wp2
          go_roundw
          case rel => exact ⟨p, by omega, rfl, HM9, HB9⟩
          case measure => first | (simp [intOf]; done) | (simp [intOf]; omega)
theorem specBound_any (s : Option Addr) (n c : Nat) (V : Nat → Int) (w : World) (hn0 : (n : Int) ≤ 1048576) (HR : Hid (RowI w s (n * 5) V)) :
    Calls Try.prog 25 #[.slice s n c] w fun e w' => e = .returned (.int .i64 (bndV n V)) ∧ Below w.heap.size w w' := by
  cases hp : planB n V
  case true =>
    have hy := plan_yes hp
    rw [bndV_yes hp (show 0 < n by omega)]
    exact specBound_yes s n c V w hn0 HR hp (by omega) (by omega)
  case false =>
    rw [bndV_no hp]
    go_enter Try.func25, Try.ntmps25
    go_wp2_with fail
    refine (specPlanOk_any s n c V w hn0 HR).mono ?_
    rintro e w1 ⟨rfl, b1⟩
    rw [hp]
    go_wp2
    go_ret
    exact ⟨rfl, b1⟩
end Go.Proofs.Ytlkegoofpmgcjaa
