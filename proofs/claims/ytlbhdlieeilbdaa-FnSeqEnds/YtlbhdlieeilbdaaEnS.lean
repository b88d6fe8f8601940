/-
What is proved: what the specification's Ends answers: the same.
-/
import Derived.Test.YtlbhdlieeilbdaaEnI
import Derived.Test.YtlbhdlieeilbdaaBnS
import Derived.Test.YtlbhdlieeilbdaaOwnV
namespace Go.Proofs.Ytlbhdlieeilbdaa
set_option maxRecDepth 40000
open Go.Sort Go.Shelf Go.ChangeShapes Go.WideShapes Go.ChangeAt Go.RowKit
set_option linter.unusedVariables false
set_option linter.unusedSimpArgs false

theorem make_bow (n : Nat) (hn : n ≤ 1048576) (w : World) : (Instr.makeSlice 70 (.int .i64 (n : Int)) (.int .i64 (n : Int))).run Try.prog w = .ok (.slice (some ⟨w.heap.size, 0, none⟩) n n) (w.alloc (.cells (madeCells #[.bool false] n) 4)) := by
  have hinfo : (Try.prog.info? 4).map (fun i => (i.zero, i.size, i.bytes)) = some (some (.bool false), 1, 1) := by kernel_rfl
  obtain ⟨i, hi, hzz⟩ := Option.map_eq_some_iff.1 hinfo
  simp only [Prod.mk.injEq] at hzz
  obtain ⟨hz, hs, hb⟩ := hzz
  have hr := run_make (P := Try.prog) w 70 4 i _ Try.underlying70 hi hz .i64 .i64 n n (by omega) (Int.le_refl _) (by rw [hb]; omega) (by omega)
  simp only [Int.toNat_natCast, hs, Nat.mul_one] at hr
  exact hr
def TabZ (n0 bf : Nat) (W0 : World) (n : Nat) (T : Nat → Bool) (W : World) : Prop := KpB n0 bf W0 W ∧ (∀ j, j < n → W.cell? ⟨bf, j, none⟩ = some (.bool (T j))) ∧ (∀ j, W.frozen? ⟨bf, j, none⟩ = false) ∧ n0 ≤ W.heap.size
theorem TabZ.below {n0 bf n : Nat} {W0 W W' : World} {T : Nat → Bool} (h : TabZ n0 bf W0 n T W) (hb : Below W.heap.size W W') (hf : bf < n0) : TabZ n0 bf W0 n T W' := by
  have hz : bf < W.heap.size := Nat.lt_of_lt_of_le hf h.2.2.2
  exact ⟨h.1.trans (KpB.below (hb.mono h.2.2.2)), fun j hj => (hb.cell (p := ⟨bf, j, none⟩) hz).trans (h.2.1 j hj), fun j => (hb.frozen (p := ⟨bf, j, none⟩) hz).trans (h.2.2.1 j), Nat.le_trans h.2.2.2 hb.size⟩
theorem TabZ.set {n0 bf n p : Nat} {W0 W : World} {T : Nat → Bool} (h : TabZ n0 bf W0 n T W) (hf : bf < n0) (hp : p < n) (x : Bool) : TabZ n0 bf W0 n (updBo T p x) (W.setCell ⟨bf, p, none⟩ (.bool x)) := by
  have bs : Beside bf W (W.setCell ⟨bf, p, none⟩ (.bool x)) := Beside.setCell bf _ _ _
  refine ⟨h.1.trans (KpB.beside bs h.2.2.2), fun j hj => ?_, fun j => by rw [World.frozen?_setCell]; exact h.2.2.1 j, Nat.le_trans h.2.2.2 bs.2.2.2.1⟩
  unfold updBo
  by_cases e : j = p
  · subst e
    rw [if_pos rfl]
    exact World.cell?_setCell_same' _ _ _ (by rw [h.2.1 j hj]; rfl)
  · rw [if_neg e]
    exact (World.cell?_setCell_other _ _ _ _ (by intro q; cases q; exact e rfl)).trans (h.2.1 j hj)
theorem updBo_off (T : Nat → Bool) {p j : Nat} (x : Bool) (h : j ≠ p) : updBo T p x j = T j := by unfold updBo; rw [if_neg h]
theorem updBo_same (T : Nat → Bool) (p : Nat) (x : Bool) : updBo T p x p = x := by unfold updBo; rw [if_pos rfl]
theorem updBo_twice (T : Nat → Bool) (p : Nat) (x y : Bool) : updBo (updBo T p x) p y = updBo T p y := by
  funext j
  unfold updBo
  by_cases e : j = p
  · rw [if_pos e, if_pos e]
  · rw [if_neg e, if_neg e, if_neg e]
theorem updBo_self (T : Nat → Bool) (p : Nat) : updBo T p (T p) = T := by
  funext j
  unfold updBo
  by_cases e : j = p
  · rw [if_pos e, e]
  · rw [if_neg e]
theorem rc_out {V : Nat → Int} {x : Int} : ∀ (l : List Nat) (p : Nat), (∀ q, q ∈ l → q ≠ p) → rcR V x l p = false
  | [], p, _ => rfl
  | q :: l, p, h => by
    unfold rcR updBo
    rw [if_neg (fun e => h q (List.mem_cons_self ..) e.symm)]
    exact rc_out l p (fun r hr => h r (List.mem_cons_of_mem _ hr))
def hst (T : Nat → Bool) (x X3 X4 : Int) : Nat → Bool
  | 0 => false
  | 1 => hitB T x X3
  | _ => hitB T x X3 || hitB T x X4
theorem hst_on {T : Nat → Bool} {x X3 X4 : Int} {j : Nat} (hj : j < 2) : hst T x X3 X4 (j + 1) = (hst T x X3 X4 j || hitB T x (toX X3 X4 j)) := by
  rcases (show j = 0 ∨ j = 1 by omega) with rfl | rfl
  · show hitB T x X3 = (false || hitB T x X3); simp
  · rfl
set_option maxRecDepth 20000 in
set_option maxHeartbeats 8000000 in
theorem reach_any (s : Option Addr) (n c : Nat) (V : Nat → Int) (x : Int) (w1 : World) (HR1 : Hid (RowI w1 s (n * 5) V)) (HP : Hid (planB n V = true)) (hn : 0 < n) (h40 : (n : Int) ≤ 40) (hxm : -3 ≤ x ∧ x ≤ -1) :
    Calls Try.prog 46 #[.slice s n c, .int .i64 x] w1 fun e w' => ∃ bf, e = .returned (.slice (some ⟨bf, 0, none⟩) n n) ∧ bf < w'.heap.size ∧ (∀ j, j < n → w'.cell? ⟨bf, j, none⟩ = some (.bool (rcR V x (pls (dA n hn n)) j))) ∧ Below w1.heap.size w1 w' := by
  have hmk := make_bow n (by omega)
  go_enter Try.func46, Try.ntmps46
  go_upto_region 2 with fail
  obtain ⟨W0, hW0⟩ : ∃ z, z = w1.alloc (.cells (madeCells #[.bool false] n) 4) := ⟨_, rfl⟩
  rw [← hW0]
  have bb : Below w1.heap.size w1 W0 := by rw [hW0]; exact below0 _ _
  have cf : ∀ j, j < n → W0.cell? ⟨w1.heap.size, j, none⟩ = some (.bool false) := fun j hj => by
    rw [hW0]
    simp [go_sem, madeCells, hj]
    rw [Nat.mod_one]
    rfl
  have ff : ∀ j, W0.frozen? ⟨w1.heap.size, j, none⟩ = false := fun j => by rw [hW0]; simp [go_sem]
  have sz : W0.heap.size = w1.heap.size + 1 := by rw [hW0]; simp
  have HRW : Hid (RowI W0 s (n * 5) V) := HR1.out.below bb
  have HB0 : Hid (Below w1.heap.size w1 W0) := bb
  obtain ⟨bf, hbf⟩ : ∃ z, z = w1.heap.size := ⟨_, rfl⟩
  rw [← hbf] at cf ff ⊢
  obtain ⟨n0, hn0'⟩ : ∃ z, z = W0.heap.size := ⟨_, rfl⟩
  have lf : bf < n0 := by omega
  have lw : w1.heap.size ≤ bf := by omega
  obtain ⟨b, o, hs, hbz, -⟩ := HR1.out 0 (by omega)
  subst hs
  have HCS : Hid (∀ j, j < n * 5 → W0.cell? ⟨b, o + j, none⟩ = some (.int .i64 (V j))) := fun j hj => by
    obtain ⟨b', o', e, hz, hc⟩ := HRW.out j hj
    cases e
    exact hc
  have hbf2 : b ≠ bf := by omega
  have hb0 : b < n0 := by omega
  have HT0 : Hid (TabZ n0 bf W0 n (rcR V x (pls (dA n hn 0))) W0) := ⟨KpB.refl _ _ _, fun j hj => cf j hj, ff, by omega⟩
  clear hmk hW0 bb cf ff sz hbf HR1 HRW hbz hn0'
  go_wp2_with fail
  go_loopw [6] (fun i wx => ∃ k : Nat, k ≤ n ∧ i = .int .i64 ((k : Int) - 1) ∧ Hid (TabZ n0 bf W0 n (rcR V x (pls (dA n hn (n - k)))) wx) ∧ Hid (Below w1.heap.size w1 wx)) (fun i _ => ((intOf i) + 1).toNat)
  case atStart => exact ⟨n, Nat.le_refl _, rfl, by rw [Nat.sub_self]; exact HT0, HB0⟩
  case round =>
    clear HT0 HB0
    obtain ⟨k, hk, rfl, HT, HB⟩ := hrel
    cases k with
    | zero =>
      rw [Nat.sub_zero] at HT
      have hT := HT.out
      have BF := HB.out
      go_wp2
      go_ret
      exact ⟨bf, rfl, Nat.lt_of_lt_of_le lf hT.2.2.2, hT.2.1, BF⟩
    | succ p =>
      have e : (((p + 1 : Nat) : Int) - 1) = (p : Int) := by omega
      have hpn : p < n := by omega
      have hpi : (p : Int) < (n : Int) := by omega
      have hp0 : (0 : Int) ≤ (p : Int) := by omega
      rw [e]
      clear e
      rw [show n - (p + 1) = n - 1 - p by omega] at HT
      have hz : rcR V x (pls (dA n hn (n - 1 - p))) p = false := rc_out _ _ dA_not
      have to3 := pln_to HP.out hpn 3 (.inl rfl)
      have to4 := pln_to HP.out hpn 4 (.inr rfl)
      have HN : Hid (rcR V x (pls (dA n hn (n - p))) = updBo (rcR V x (pls (dA n hn (n - 1 - p)))) p (hitB (rcR V x (pls (dA n hn (n - 1 - p)))) x (V (p * 5 + 3)) || hitB (rcR V x (pls (dA n hn (n - 1 - p)))) x (V (p * 5 + 4)))) := by
        show _ = _
        rw [show n - p = n - 1 - p + 1 by omega, dA_succ, pls_snoc]
        simp only [rcR]
        rw [show n - 1 - (n - 1 - p) = p by omega]
      obtain ⟨T, hT⟩ : ∃ z, rcR V x (pls (dA n hn (n - 1 - p))) = z := ⟨_, rfl⟩
      rw [hT] at HT hz HN
      clear hT
      obtain ⟨X3, hX3⟩ : ∃ z, V (p * 5 + 3) = z := ⟨_, rfl⟩
      obtain ⟨X4, hX4⟩ : ∃ z, V (p * 5 + 4) = z := ⟨_, rfl⟩
      have cs3 := HCS.out (p * 5 + 3) (by omega)
      have cs4 := HCS.out (p * 5 + 4) (by omega)
      rw [← Nat.add_assoc] at cs3 cs4
      rw [hX3] at cs3 to3 HN
      rw [hX4] at cs4 to4 HN
      have HC3 : Hid (W0.cell? ⟨b, o + p * 5 + 3, none⟩ = some (.int .i64 X3)) := cs3
      have HC4 : Hid (W0.cell? ⟨b, o + p * 5 + 4, none⟩ = some (.int .i64 X4)) := cs4
      have HT3 : Hid ((modB X3 = true ∧ -3 ≤ X3 ∧ X3 ≤ -1) ∨ (modB X3 = false ∧ (p : Int) + 1 ≤ X3 ∧ X3 ≤ (n : Int) - 1)) := to3
      have HT4 : Hid ((modB X4 = true ∧ -3 ≤ X4 ∧ X4 ≤ -1) ∨ (modB X4 = false ∧ (p : Int) + 1 ≤ X4 ∧ X4 ≤ (n : Int) - 1)) := to4
      have HM : Hid (TabZ n0 bf W0 n (updBo T p (hst T x X3 X4 0)) wr) := by
        show TabZ _ _ _ _ _ _
        have : updBo T p (hst T x X3 X4 0) = T := by show updBo T p false = T; rw [← hz]; exact updBo_self T p
        rw [this]
        exact HT.out
      clear hX3 hX4 cs3 cs4 to3 to4 hz HT
      rename World => wa
      go_wp2_with fail
      go_loopw [7] (fun q wx => ∃ j : Nat, j ≤ 2 ∧ q = .int .i64 (j : Int) ∧ Hid (TabZ n0 bf W0 n (updBo T p (hst T x X3 X4 j)) wx) ∧ Hid (Below w1.heap.size w1 wx)) (fun q _ => 2 - (intOf q).toNat)
      case atStart => exact ⟨0, by omega, rfl, HM, HB⟩
      case round =>
        clear HM HB
        obtain ⟨j, hj, rfl, HM, HB⟩ := hrel
        by_cases hjl : j < 2
        case neg =>
          obtain rfl : j = 2 := by omega
          have HNP : Hid (updBo T p (hst T x X3 X4 2) = rcR V x (pls (dA n hn (n - p)))) := by show _ = _; rw [HN.out]; rfl
          rw [HNP.out] at HM
          have nx : ¬ ((2 : Nat) : Int) < 2 := by omega
          clear hj hjl HNP HN HT3 HT4
          go_wp2
          go_roundw
          case rel => exact ⟨p, by omega, rfl, HM, HB⟩
          case measure => first | (simp [intOf]; done) | (simp [intOf]; omega)
        case pos =>
          have j1 : (j : Int) < 2 := by omega
          have HMO : Hid (hst T x X3 X4 (j + 1) = (hst T x X3 X4 j || hitB T x (toX X3 X4 j))) := hst_on hjl
          have HTX : Hid ((modB (toX X3 X4 j) = true ∧ -3 ≤ toX X3 X4 j ∧ toX X3 X4 j ≤ -1) ∨ (modB (toX X3 X4 j) = false ∧ (p : Int) + 1 ≤ toX X3 X4 j ∧ toX X3 X4 j ≤ (n : Int) - 1)) := by
            show _ ∨ _
            unfold toX
            split
            · exact HT3.out
            · exact HT4.out
          have e3 := (HM.out.1.cell (p := ⟨b, o + p * 5 + 3, none⟩) hb0 hbf2).trans HC3.out
          have e4 := (HM.out.1.cell (p := ⟨b, o + p * 5 + 4, none⟩) hb0 hbf2).trans HC4.out
          obtain ⟨X, hX⟩ : ∃ z, toX X3 X4 j = z := ⟨_, rfl⟩
          have hlit : (#[Value.int .i64 X3, Value.int .i64 X4] : Array Value)[j]? = some (.int .i64 X) := by
            rw [← hX]
            rcases (show j = 0 ∨ j = 1 by omega) with rfl | rfl <;> rfl
          rw [hX] at HMO HTX
          clear hX
          rename World => wb
          go_upto_region 8 with fail
          refine wp_region_held_drew (S := fun w' => w'.cell? ⟨b, o + p * 5 + 3, none⟩ = some (.int .i64 X3) ∧ w'.cell? ⟨b, o + p * 5 + 4, none⟩ = some (.int .i64 X4)) (by kernel_rfl) ?_ (fun hHeld => ?_)
          · exact ⟨by simpa [go_sem] using e3, by simpa [go_sem] using e4⟩
          obtain ⟨v0, hv0⟩ : ∃ z, z = wb.drew := ⟨_, rfl⟩
          try rw [← hv0] at hHeld
          rw [← hv0]
          have bv0 : Below wb.heap.size wb v0 := by rw [hv0]; exact Below.drew (Below.refl _ _)
          clear hv0
          replace HM : Hid (TabZ n0 bf W0 n (updBo T p (hst T x X3 X4 j)) v0) := HM.out.below bv0 lf
          replace HB : Hid (Below w1.heap.size w1 v0) := HB.out.trans (bv0.mono HB.out.size)
          clear bv0 e3 e4
          refine wpAnyH_take (i := 0) (v := .slice (some ⟨b, o, none⟩) n c) rfl (by kernel_rfl) (by kernel_rfl) (by kernel_rfl) (fun _ _ _ h => h) (Or.inl ⟨by kernel_rfl, ?_⟩) hHeld ?_
          · intro w' hSw
            obtain ⟨s0_, s1_⟩ := hSw
            first | (go_simp; done) | (go_simp; with_reducible rfl) | (go_simp; rw [IntKind.wrap_i64]; omega) | (go_simp; omega)
          simp only [Act.put, List.setIfInBounds_toArray, List.set_cons_zero, List.set_cons_succ]
          refine wpAnyH_take (i := 1) (v := .int .i64 (p : Int)) rfl (by kernel_rfl) (by kernel_rfl) (by kernel_rfl) (fun _ _ _ h => h) (Or.inl ⟨by kernel_rfl, ?_⟩) hHeld ?_
          · intro w' hSw
            obtain ⟨s0_, s1_⟩ := hSw
            first | (go_simp; done) | (go_simp; with_reducible rfl) | (go_simp; rw [IntKind.wrap_i64]; omega) | (go_simp; omega)
          simp only [Act.put, List.setIfInBounds_toArray, List.set_cons_zero, List.set_cons_succ]
          refine wpAnyH_take (i := 2) (v := .pointer (some ⟨b, o + p * 5, none⟩)) rfl (by kernel_rfl) (by kernel_rfl) (by kernel_rfl) (fun _ _ _ h => h) (Or.inl ⟨by kernel_rfl, ?_⟩) hHeld ?_
          · intro w' hSw
            obtain ⟨s0_, s1_⟩ := hSw
            first | (go_simp; done) | (go_simp; with_reducible rfl) | (go_simp; rw [IntKind.wrap_i64]; omega) | (go_simp; omega)
          simp only [Act.put, List.setIfInBounds_toArray, List.set_cons_zero, List.set_cons_succ]
          refine wpAnyH_take (i := 3) (v := .pointer (some ⟨b, o + p * 5 + 3, none⟩)) rfl (by kernel_rfl) (by kernel_rfl) (by kernel_rfl) (fun _ _ _ h => h) (Or.inl ⟨by kernel_rfl, ?_⟩) hHeld ?_
          · intro w' hSw
            obtain ⟨s0_, s1_⟩ := hSw
            first | (go_simp; done) | (go_simp; with_reducible rfl) | (go_simp; rw [IntKind.wrap_i64]; omega) | (go_simp; omega)
          simp only [Act.put, List.setIfInBounds_toArray, List.set_cons_zero, List.set_cons_succ]
          refine wpAnyH_take (i := 4) (v := .int .i64 X3) rfl (by kernel_rfl) (by kernel_rfl) (by kernel_rfl) (fun _ _ _ h => h) (Or.inl ⟨by kernel_rfl, ?_⟩) hHeld ?_
          · intro w' hSw
            obtain ⟨s0_, s1_⟩ := hSw
            first | (go_simp; done) | (go_simp; with_reducible rfl) | (go_simp; rw [IntKind.wrap_i64]; omega) | (go_simp; omega)
          simp only [Act.put, List.setIfInBounds_toArray, List.set_cons_zero, List.set_cons_succ]
          refine wpAnyH_take (i := 5) (v := .slice (some ⟨b, o, none⟩) n c) rfl (by kernel_rfl) (by kernel_rfl) (by kernel_rfl) (fun _ _ _ h => h) (Or.inl ⟨by kernel_rfl, ?_⟩) hHeld ?_
          · intro w' hSw
            obtain ⟨s0_, s1_⟩ := hSw
            first | (go_simp; done) | (go_simp; with_reducible rfl) | (go_simp; rw [IntKind.wrap_i64]; omega) | (go_simp; omega)
          simp only [Act.put, List.setIfInBounds_toArray, List.set_cons_zero, List.set_cons_succ]
          refine wpAnyH_take (i := 6) (v := .int .i64 (p : Int)) rfl (by kernel_rfl) (by kernel_rfl) (by kernel_rfl) (fun _ _ _ h => h) (Or.inl ⟨by kernel_rfl, ?_⟩) hHeld ?_
          · intro w' hSw
            obtain ⟨s0_, s1_⟩ := hSw
            first | (go_simp; done) | (go_simp; with_reducible rfl) | (go_simp; rw [IntKind.wrap_i64]; omega) | (go_simp; omega)
          simp only [Act.put, List.setIfInBounds_toArray, List.set_cons_zero, List.set_cons_succ]
          refine wpAnyH_take (i := 7) (v := .pointer (some ⟨b, o + p * 5, none⟩)) rfl (by kernel_rfl) (by kernel_rfl) (by kernel_rfl) (fun _ _ _ h => h) (Or.inl ⟨by kernel_rfl, ?_⟩) hHeld ?_
          · intro w' hSw
            obtain ⟨s0_, s1_⟩ := hSw
            first | (go_simp; done) | (go_simp; with_reducible rfl) | (go_simp; rw [IntKind.wrap_i64]; omega) | (go_simp; omega)
          simp only [Act.put, List.setIfInBounds_toArray, List.set_cons_zero, List.set_cons_succ]
          refine wpAnyH_take (i := 8) (v := .pointer (some ⟨b, o + p * 5 + 4, none⟩)) rfl (by kernel_rfl) (by kernel_rfl) (by kernel_rfl) (fun _ _ _ h => h) (Or.inl ⟨by kernel_rfl, ?_⟩) hHeld ?_
          · intro w' hSw
            obtain ⟨s0_, s1_⟩ := hSw
            first | (go_simp; done) | (go_simp; with_reducible rfl) | (go_simp; rw [IntKind.wrap_i64]; omega) | (go_simp; omega)
          simp only [Act.put, List.setIfInBounds_toArray, List.set_cons_zero, List.set_cons_succ]
          refine wpAnyH_take (i := 9) (v := .int .i64 X4) rfl (by kernel_rfl) (by kernel_rfl) (by kernel_rfl) (fun _ _ _ h => h) (Or.inl ⟨by kernel_rfl, ?_⟩) hHeld ?_
          · intro w' hSw
            obtain ⟨s0_, s1_⟩ := hSw
            first | (go_simp; done) | (go_simp; with_reducible rfl) | (go_simp; rw [IntKind.wrap_i64]; omega) | (go_simp; omega)
          simp only [Act.put, List.setIfInBounds_toArray, List.set_cons_zero, List.set_cons_succ]
          refine wpAnyH_take (i := 11) (v := .int .i64 (j : Int)) rfl (by kernel_rfl) (by kernel_rfl) (by kernel_rfl) (fun _ _ _ h => h) (Or.inl ⟨by kernel_rfl, ?_⟩) hHeld ?_
          · intro w' hSw
            obtain ⟨s0_, s1_⟩ := hSw
            first | (go_simp; done) | (go_simp; with_reducible rfl) | (go_simp; rw [IntKind.wrap_i64]; omega) | (go_simp; omega)
          simp only [Act.put, List.setIfInBounds_toArray, List.set_cons_zero, List.set_cons_succ]
          refine wpAnyH_ready (rs := [10]) (by kernel_rfl) (by simp) ?_
          refine (AllReadyH.cons rfl (fun KK hK => ?_) AllReadyH.nil)
          go_simp
          obtain ⟨v0_1, hV_⟩ : ∃ z, z = v0.alloc (.cells #[.int .i64 X3, .int .i64 X4] 2) := ⟨_, rfl⟩
          rw [← hV_]
          have bl_ : Below v0.heap.size v0 v0_1 := by rw [hV_]; exact below0 _ _
          have lx : v0_1.cell? ⟨v0.heap.size, j, none⟩ = some (.int .i64 X) := by rw [hV_]; simp [go_sem, hlit]
          obtain ⟨g9, hg9⟩ : ∃ z, z = v0.heap.size := ⟨_, rfl⟩
          rw [← hg9] at lx ⊢
          replace HM : Hid (TabZ n0 bf W0 n (updBo T p (hst T x X3 X4 j)) v0_1) := HM.out.below bl_ lf
          replace HB : Hid (Below w1.heap.size w1 v0_1) := HB.out.trans (bl_.mono HB.out.size)
          clear hV_ hg9 bl_
          refine hK.out _ _ (⟨(HM.out.1.cell (p := ⟨b, o + p * 5 + 3, none⟩) hb0 hbf2).trans HC3.out, (HM.out.1.cell (p := ⟨b, o + p * 5 + 4, none⟩) hb0 hbf2).trans HC4.out⟩) (fun hHeld => ?_)
          clear hK KK
          refine wpAnyH_take (i := 12) (v := .pointer (some ⟨g9, j, none⟩)) rfl (by kernel_rfl) (by kernel_rfl) (by kernel_rfl) (fun _ _ _ h => h) (Or.inl ⟨by kernel_rfl, ?_⟩) hHeld ?_
          · intro w' hSw
            obtain ⟨s0_, s1_⟩ := hSw
            first | (go_simp; done) | (go_simp; with_reducible rfl) | (go_simp; rw [IntKind.wrap_i64]; omega) | (go_simp; omega)
          simp only [Act.put, List.setIfInBounds_toArray, List.set_cons_zero, List.set_cons_succ]
          refine wpAnyH_ready (rs := [13]) (by kernel_rfl) (by simp) ?_
          refine (AllReadyH.cons rfl (fun KK hK => ?_) AllReadyH.nil)
          go_simp
          refine hK.out _ _ (hHeld) (fun hHeld => ?_)
          clear hK KK
          refine wpAnyH_ready (rs := [14]) (by kernel_rfl) (by simp) ?_
          refine AllReadyH.cons rfl (fun KK hK => ?_) AllReadyH.nil
          go_simp
          refine hK.out _ _ hHeld (fun hHeld => ?_)
          clear hK KK
          refine wpAnyH_done (by kernel_rfl) ?_ _
          clear hHeld
          clear lx
          by_cases hXx : X = x
          case pos =>
            have hh : hitB T x X = true := by unfold hitB; rw [hXx]; simp
            have dx : (X == x) = true := by simpa using hXx
            clear hXx
            have HM9 : Hid (TabZ n0 bf W0 n (updBo T p (hst T x X3 X4 (j + 1))) (v0_1.setCell ⟨bf, p, none⟩ (.bool true))) := by
              show TabZ _ _ _ _ _ _
              rw [HMO.out, hh, Bool.or_true]
              have := HM.out.set lf hpn true
              rw [updBo_twice] at this
              exact this
            have HB9 : Hid (Below w1.heap.size w1 (v0_1.setCell ⟨bf, p, none⟩ (.bool true))) := HB.out.trans ((Beside.setCell bf v0_1 p (.bool true)).below lw HB.out.size)
            have fp := HM.out.2.2.1 p
            have cp := HM.out.2.1 p hpn
            go_wp2
            go_roundw
            case rel => exact ⟨j + 1, by omega, by go_num, HM9, HB9⟩
            case measure => simp [intOf]; omega
          case neg =>
            have dx : (X == x) = false := by simpa using hXx
            rcases HTX.out with ⟨hm, x0, x1⟩ | ⟨hm, x0, x1⟩
            case inl =>
              have hh : hitB T x X = false := by unfold hitB; rw [dx, decide_eq_false (show ¬ 0 ≤ X by omega)]; rfl
              have xn : ¬ (0 : Int) ≤ X := by omega
              have xnd : decide ((0 : Int) ≤ X) = false := decide_eq_false xn
              clear hm x0 x1 HTX
              have HM9 : Hid (TabZ n0 bf W0 n (updBo T p (hst T x X3 X4 (j + 1))) v0_1) := by
                show TabZ _ _ _ _ _ _
                rw [HMO.out, hh, Bool.or_false]
                exact HM.out
              go_wp2
              go_roundw
              case rel => exact ⟨j + 1, by omega, by go_num, HM9, HB⟩
              case measure => simp [intOf]; omega
            case inr =>
              obtain ⟨xk, hxk⟩ : ∃ k : Nat, X = (k : Int) := ⟨X.toNat, by omega⟩
              subst hxk
              have xkn : xk < n := by omega
              have xkp : xk ≠ p := by omega
              have xki : (xk : Int) < (n : Int) := by omega
              have xk0 : (0 : Int) ≤ (xk : Int) := by omega
              have cx : v0_1.cell? ⟨bf, xk, none⟩ = some (.bool (T xk)) := by have := HM.out.2.1 xk xkn; rw [updBo_off _ _ xkp] at this; exact this
              have hh0 : hitB T x (xk : Int) = T xk := by unfold hitB; rw [dx, decide_eq_true xk0]; simp
              clear HTX hm x0 x1
              cases hT : T xk
              case false =>
                have hh : hitB T x (xk : Int) = false := hh0.trans hT
                rw [hT] at cx
                clear hh0 hT
                have HM9 : Hid (TabZ n0 bf W0 n (updBo T p (hst T x X3 X4 (j + 1))) v0_1) := by
                  show TabZ _ _ _ _ _ _
                  rw [HMO.out, hh, Bool.or_false]
                  exact HM.out
                go_wp2
                go_roundw
                case rel => exact ⟨j + 1, by omega, by go_num, HM9, HB⟩
                case measure => simp [intOf]; omega
              case true =>
                have hh : hitB T x (xk : Int) = true := hh0.trans hT
                rw [hT] at cx
                clear hh0 hT
                have HM9 : Hid (TabZ n0 bf W0 n (updBo T p (hst T x X3 X4 (j + 1))) (v0_1.setCell ⟨bf, p, none⟩ (.bool true))) := by
                  show TabZ _ _ _ _ _ _
                  rw [HMO.out, hh, Bool.or_true]
                  have := HM.out.set lf hpn true
                  rw [updBo_twice] at this
                  exact this
                have HB9 : Hid (Below w1.heap.size w1 (v0_1.setCell ⟨bf, p, none⟩ (.bool true))) := HB.out.trans ((Beside.setCell bf v0_1 p (.bool true)).below lw HB.out.size)
                have fp := HM.out.2.2.1 p
                have cp := HM.out.2.1 p hpn
                go_wp2
                go_roundw
                case rel => exact ⟨j + 1, by omega, by go_num, HM9, HB9⟩
                case measure => simp [intOf]; omega
def EnPost (L : List Int) (w : World) (e : Ending) (w' : World) : Prop := ∃ s' c', e = .returned (.slice s' L.length c') ∧ OwnI w.heap.size w' s' L.length (fun j => L.getD j 0) ∧ Below w.heap.size w w'
theorem mdL_len (b : Int → Bool) : ∀ k, (mdL b k).length ≤ k
  | 0 => by simp [mdL]
  | k + 1 => by
    have := mdL_len b k
    unfold mdL
    rw [List.length_append]
    split <;> simp <;> omega
set_option maxRecDepth 20000 in
set_option maxHeartbeats 4000000 in
theorem specEnds_any (s : Option Addr) (n c : Nat) (V : Nat → Int) (f : Int) (w : World) (hn0 : (n : Int) ≤ 1048576) (HR : Hid (RowI w s (n * 5) V)) :
    Calls Try.prog 18 #[.slice s n c, .int .i64 f] w fun e w' => EnPost (endV n V f) w e w' := by
  go_enter Try.func18, Try.ntmps18
  go_upto_region 2 with fail
  have HO0 : Hid ((w.alloc (.cells #[] 2)).ownsRow w.heap.size 2 1 (.slice (some ⟨w.heap.size, 0, none⟩) 0 0) (mdL (fun _ => false) 0).length (encL (mdL (fun _ => false) 0))) := by
    show World.ownsRow _ _ _ _ _ _ _
    simpa [mdL] using World.ownsRow_lit (base := w.heap.size) (size := 1) (e := 2) w #[] 0 (Nat.le_refl _) (by simp [maxLen]) (by simp)
  obtain ⟨w1, hw1⟩ : ∃ z, z = w.alloc (.cells #[] 2) := ⟨_, rfl⟩
  rw [← hw1] at HO0 ⊢
  have b1 : Below w.heap.size w w1 := by rw [hw1]; exact below0 _ _
  have HB1 : Hid (Below w.heap.size w w1) := b1
  have HRA : Hid (∀ W, Below w.heap.size w W → RowI W s (n * 5) V) := fun W h => HR.out.below h
  have HR1 : Hid (RowI w1 s (n * 5) V) := HR.out.below b1
  have z1 : w.heap.size < w1.heap.size := by rw [hw1]; simp
  clear hw1 b1 HR
  obtain ⟨b0, hb0⟩ : ∃ z, z = w.heap.size := ⟨_, rfl⟩
  go_wp2_with fail
  refine (specPlanOk_any s n c V w1 hn0 HR1).mono ?_
  rintro e w2 ⟨rfl, b2⟩
  have HR2 : Hid (RowI w2 s (n * 5) V) := HR1.out.below b2
  have HB2 : Hid (Below w.heap.size w w2) := HB1.out.trans (b2.mono HB1.out.size)
  have HO2 : Hid (w2.ownsRow w.heap.size 2 1 (.slice (some ⟨w.heap.size, 0, none⟩) 0 0) 0 []) := by
    have := HO0.out
    refine ⟨this.1, .inr ?_⟩
    rcases this.2 with ⟨e, _⟩ | ⟨g, cap, cur, e, hb, hg, r⟩
    · cases e
    · exact ⟨g, cap, cur, e, hb, (b2.block g (Array.getElem?_eq_some_iff.1 hg).1).trans hg, r⟩
  clear b2 HR1 HB1 HO0 hb0 b0
  have n9 : IntKind.i64.wrap ((n : Int) - 1) = (n : Int) - 1 := by rw [IntKind.wrap_i64]; omega
  cases hp : planB n V
  case false =>
    have HV : Hid (endV n V f = []) := endV_no (by rw [hp]; simp)
    have BF := HB2.out
    clear hp
    go_wp2
    go_ret
    rw [HV.out]
    unfold EnPost
    exact ⟨_, 0, rfl, fun j hj => by simp at hj, BF⟩
  case true =>
    have hy := plan_yes hp
    have hn : 0 < n := by omega
    have h40 : (n : Int) ≤ 40 := by omega
    have HP : Hid (planB n V = true) := hp
    clear hy
    go_wp2_with fail
    refine (l1In_is f 0 ((n : Int) - 1) _).mono ?_
    rintro e w3 ⟨rfl, rfl⟩
    rename World => w2
    by_cases hf : 0 ≤ f ∧ f ≤ (n : Int) - 1
    case neg =>
      have HV : Hid (endV n V f = []) := endV_no (fun q => hf q.2)
      have hw : inB 0 ((n : Int) - 1) f = false := by unfold inB; simp; omega
      have BF := HB2.out
      try rw [hw]
      clear hp hf
      go_wp2
      go_ret
      rw [HV.out]
      unfold EnPost
      exact ⟨_, 0, rfl, fun j hj => by simp at hj, BF⟩
    case pos =>
      have hw : inB 0 ((n : Int) - 1) f = true := by unfold inB; simp; omega
      obtain ⟨k, hk⟩ : ∃ k : Nat, f = (k : Int) := ⟨f.toNat, by omega⟩
      have kn : k < n := by omega
      have kni : (k : Int) < (n : Int) := by omega
      have HV : Hid (endV n V f = mdL (fun x => rcR V x (pls (dA n hn n)) k) 3) := by
        show _ = _
        rw [endV_yes hp hf.1 hf.2 hn, end_mdL hp _ (pls_in _), hk, Int.toNat_natCast]
      try rw [hw]
      subst hk
      clear hp hf hw
      obtain ⟨B, hBB⟩ : ∃ B : Int → Bool, (fun x => rcR V x (pls (dA n hn n)) k) = B := ⟨_, rfl⟩
      have HRC : Hid (∀ x W, RowI W s (n * 5) V → -3 ≤ x → x ≤ -1 → Calls Try.prog 46 #[.slice s n c, .int .i64 x] W fun e w' => ∃ bf, e = .returned (.slice (some ⟨bf, 0, none⟩) n n) ∧ bf < w'.heap.size ∧ w'.cell? ⟨bf, k, none⟩ = some (.bool (B x)) ∧ Below W.heap.size W w') := fun x W h h1 h2 => (reach_any s n c V x W h HP hn h40 ⟨h1, h2⟩).mono (by
        rintro e w' ⟨bf, h1, h2, h3, h4⟩
        exact ⟨bf, h1, h2, by rw [← hBB]; exact h3 k kn, h4⟩)
      rw [hBB] at HV
      have HOB : Hid (w2.ownsRow w.heap.size 2 1 (.slice (some ⟨w.heap.size, 0, none⟩) 0 0) (mdL B 0).length (encL (mdL B 0))) := HO2
      clear hBB HO2
      go_wp2_with fail
      go_loopw [5, 6] (fun v i wx => ∃ j : Nat, j ≤ 3 ∧ i = .int .i64 (-3 + (j : Int)) ∧ Hid (wx.ownsRow w.heap.size 2 1 v (mdL B j).length (encL (mdL B j))) ∧ Hid (RowI wx s (n * 5) V) ∧ Hid (Below w.heap.size w wx)) (fun _ i _ => (3 + -3 - intOf i).toNat)
      case atStart => exact ⟨0, by omega, rfl, HOB, HR2, HB2⟩
      case round =>
        clear HOB HR2 HB2
        obtain ⟨j, hj, rfl, HO, HR, HB⟩ := hrel
        rename World => wa
        by_cases hlt : j < 3
        case neg =>
          obtain rfl : j = 3 := by omega
          obtain ⟨t, cap, e5, hOI⟩ : ∃ t cap, u5 = .slice t (mdL B 3).length cap ∧ OwnI w.heap.size wa t (mdL B 3).length (fun j => (mdL B 3).getD j 0) := by
            rcases HO.out.2 with ⟨e, q⟩ | ⟨g, cap, cur, e, hb, hg, h1, h2, h3, h4⟩
            · exact ⟨none, 0, by rw [e, q], fun j hj => by omega⟩
            · refine ⟨_, cap, e, fun j hj => ⟨g, rfl, hb, (Array.getElem?_eq_some_iff.1 hg).1, ?_, by simp [World.frozen?, hg]⟩⟩
              have hH := holds_of_blockI (ss := mdL B 3) hg (by rw [Nat.mul_one] at h4; exact h4)
              have := (hH j (by simpa using hj)).1
              rw [Nat.zero_add] at this
              rw [this]
              show some (Value.int .i64 _) = some (Value.int .i64 ((mdL B 3).getD j 0))
              rw [List.getD_eq_getElem?_getD, List.getElem?_eq_getElem hj, getElem!_pos _ j (by simpa using hj)]
              simp
          subst e5
          have HF : Hid (OwnI w.heap.size wa t (mdL B 3).length (fun j => (mdL B 3).getD j 0)) := hOI
          have BF := HB.out
          have nx : ¬ (-3 + ((3 : Nat) : Int)) ≤ -1 := by omega
          clear hOI hj hlt HO HR
          go_wp2
          go_ret
          rw [HV.out]
          unfold EnPost
          exact ⟨t, cap, rfl, HF.out, BF⟩
        case pos =>
          obtain ⟨x, hx⟩ : ∃ x, -3 + (j : Int) = x := ⟨_, rfl⟩
          have HX : Hid (-3 + (j : Int) = x) := hx
          rw [hx]
          have x1 : x ≤ -1 := by omega
          have x0 : -3 ≤ x := by omega
          have HLN := mdL_len B j
          clear hx
          go_wp2_with fail
          refine (HRC.out x wa HR.out x0 x1).mono ?_
          rintro e wb ⟨bf, rfl, hbz, hcb, bb⟩
          replace HR : Hid (RowI wb s (n * 5) V) := HR.out.below bb
          replace HB : Hid (Below w.heap.size w wb) := HB.out.trans (bb.mono HB.out.size)
          replace HO : Hid (wb.ownsRow w.heap.size 2 1 u5 (mdL B j).length (encL (mdL B j))) := by
            refine ⟨HO.out.1, ?_⟩
            rcases HO.out.2 with q | ⟨g, cap, cur, e, hb, hg, r⟩
            · exact .inl q
            · exact .inr ⟨g, cap, cur, e, hb, (bb.block g (Array.getElem?_eq_some_iff.1 hg).1).trans hg, r⟩
          clear bb
          have hn1 : mdL B (j + 1) = mdL B j ++ (if B x = true then [x] else []) := by rw [← HX.out]; rfl
          have wx1 : IntKind.i64.wrap (x + 1) = x + 1 := by rw [IntKind.wrap_i64]; omega
          cases hBx : B x
          case false =>
            rw [hBx] at hcb hn1
            have HN1 : Hid (mdL B (j + 1) = mdL B j) := by show _ = _; rw [hn1]; simp
            rw [← HN1.out] at HO
            clear hn1 hBx
            go_wp2
            go_roundw
            case rel => exact ⟨j + 1, by omega, by have := HX.out; congr 1; omega, HO, HR, HB⟩
            case measure => simp [intOf]; omega
          case true =>
            rw [hBx] at hcb hn1
            have HN1 : Hid (mdL B (j + 1) = mdL B j ++ [x]) := hn1
            have zb : w.heap.size ≤ wb.heap.size := HB.out.size
            clear hn1 hBx
            go_wp2_with (first | (at_builtin; refine list_i64 w.heap.size u5 (mdL B j).length (encL (mdL B j)) _ _ (by rfl) (by rfl) (by rfl) (by rfl) HO.out (by omega) zb ?_; intro g9 cap9 w9 o9 gr9 gz9))
            have HO9 : Hid (w9.ownsRow w.heap.size 2 1 (.slice (some ⟨g9, 0, none⟩) ((mdL B j).length + 1) cap9) (mdL B (j + 1)).length (encL (mdL B (j + 1)))) := by
              show World.ownsRow _ _ _ _ _ _ _
              rw [HN1.out, List.length_append]
              have e : encL (mdL B j ++ [x]) = encL (mdL B j) ++ [.int .i64 x] := List.map_append
              rw [e]
              exact o9
            have b9 : Below w.heap.size wb w9 := grown_below gr9 zb (own_block HO.out)
            have HB9 : Hid (Below w.heap.size w w9) := HB.out.trans b9
            have HR9 : Hid (RowI w9 s (n * 5) V) := HRA.out w9 HB9.out
            clear o9 gr9 b9
            go_roundw
            case rel => exact ⟨j + 1, by omega, by have := HX.out; congr 1; omega, HO9, HR9, HB9⟩
            case measure => simp [intOf]; omega
end Go.Proofs.Ytlbhdlieeilbdaa
