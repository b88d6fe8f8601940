/-
What is proved: what the specification's Shortest answers: the same.
-/
import Derived.Test.YtlkegoofpmgcjaaSoM
import Derived.Test.YtlkegoofpmgcjaaBnS
import Derived.Test.YtlkegoofpmgcjaaOwnV
namespace Go.Proofs.Ytlkegoofpmgcjaa
set_option maxRecDepth 40000
open Go.ChangeShapes Go.WideShapes Go.ChangeAt Go.RowKit
set_option linter.unusedVariables false
set_option linter.unusedSimpArgs false

theorem make_fa (n : Nat) (hn : n ≤ 1048576) (w : World) : (Instr.makeSlice 48 (.int .i64 (n : Int)) (.int .i64 (n : Int))).run Try.prog w = .ok (.slice (some ⟨w.heap.size, 0, none⟩) n n) (w.alloc (.cells (madeCells #[.int .i64 0] n) 3)) := by
  have hinfo : (Try.prog.info? 3).map (fun i => (i.zero, i.size, i.bytes)) = some (some (.int .i64 0), 1, 8) := by kernel_rfl
  obtain ⟨i, hi, hzz⟩ := Option.map_eq_some_iff.1 hinfo
  simp only [Prod.mk.injEq] at hzz
  obtain ⟨hz, hs, hb⟩ := hzz
  have hr := run_make (P := Try.prog) w 48 3 i _ Try.underlying48 hi hz .i64 .i64 n n (by omega) (Int.le_refl _) (by rw [hb]; omega) (by omega)
  simp only [Int.toNat_natCast, hs, Nat.mul_one] at hr
  exact hr
theorem list_i64n {ops : Array Oper} {rest : List Oper} {o : Oper} {a : Act} {Q : Exit → Act → World → Prop} {W : World} {t : TypeId} {x : Int} (base : Nat) (v : Value) (k : Nat) (xs : List Value) (s z : Operand) (hgd : o.guard = none)
    (ho : o.op = .call { callee := .builtin .append, args := #[s, z], argTypes := #[27, 27] }) (hs : a.eval s = v) (hx : a.eval z = .slice (some ⟨W.heap.size, 0, none⟩) 1 1) (hown : W.ownsRow base 2 1 v k xs) (hk : k ≤ 10000000) (hb : base ≤ W.heap.size)
    (h : ∀ g cap w', w'.ownsRow base 2 1 (.slice (some ⟨g, 0, none⟩) (k + 1) cap) (k + 1) (xs ++ [.int .i64 x]) → W.grownBy w' v.ownBlock → (v.ownBlock = some g ∨ W.heap.size < g) → g < w'.heap.size → wpList Try.prog ops Q rest (a.put o.dst (.slice (some ⟨g, 0, none⟩) (k + 1) cap)) w') :
    wpList Try.prog ops Q (o :: rest) a (W.alloc (.cells #[.int .i64 x] t)) := by
  obtain ⟨i0, hi, hz0, hz1, hz2⟩ := info_parts info_i64
  refine wpList_append_lies _ hgd s z 27 ho base 2 i0 (.int .i64 0) 1 8 Try.underlying27 hi hz0 hz1 hz2 rfl (by decide) v k xs hs (hown.alloc _) ⟨W.heap.size, 0, none⟩ 1 1 [.int .i64 x] hx rfl (newsOne _ _ _) ?_ (by decide) (by unfold maxLen; omega) (by omega) (by simp; omega) _ rfl ?_
  · intro u hu
    simp at hu
    subst hu; rfl
  · intro g cap w' h1 h2 h4 h3
    exact h g cap w' h1 (grown_new h2) (h4.imp id (fun e => by rw [e]; simp)) h3
def fst2 (F : Nat → Int) (md X3 X4 : Int) : Nat → Int
  | 0 => 0
  | 1 => faX md F X3
  | _ => mnF (faX md F X3) (faX md F X4)
theorem faX_pos {F : Nat → Int} (h : ∀ i, 0 ≤ F i) (md X : Int) : 0 ≤ faX md F X := by
  unfold faX
  have := h X.toNat
  split
  · omega
  · split <;> omega
theorem fst2_on {F : Nat → Int} (h : ∀ i, 0 ≤ F i) {md X3 X4 : Int} {j : Nat} (hj : j < 2) : fst2 F md X3 X4 (j + 1) = mnF (fst2 F md X3 X4 j) (faX md F (toX X3 X4 j)) := by
  rcases (show j = 0 ∨ j = 1 by omega) with rfl | rfl
  · show faX md F X3 = mnF 0 (faX md F X3)
    have := faX_pos h md X3
    unfold mnF
    split <;> omega
  · rfl
theorem mnF_to {a b : Int} (h : 0 < b) (h1 : a = 0 ∨ b < a) : mnF a b = b := by unfold mnF; rw [if_pos ⟨h, h1⟩]
theorem mnF_stay {a b : Int} (h : ¬ (0 < b ∧ (a = 0 ∨ b < a))) : mnF a b = a := by unfold mnF; rw [if_neg h]
theorem faN_pos {M : Nat} {T : Nat → Rte} (h : RtG M T) (i : Nat) : 0 ≤ faN (T i) ∧ faN (T i) ≤ (M : Int) := by
  have := (h i).1
  unfold faN
  split <;> omega
theorem mnF_in {a b B : Int} (h : 0 ≤ a ∧ a ≤ B) (h1 : 0 ≤ b ∧ b ≤ B) : 0 ≤ mnF a b ∧ mnF a b ≤ B := by unfold mnF; split <;> omega
theorem rt_out {V : Nat → Int} {md : Int} : ∀ (l : List Nat) (p : Nat), (∀ q, q ∈ l → q ≠ p) → rtR V md l p = (false, [])
  | [], p, _ => rfl
  | q :: l, p, h => by
    unfold rtR updT
    rw [if_neg (fun e => h q (List.mem_cons_self ..) e.symm)]
    exact rt_out l p (fun r hr => h r (List.mem_cons_of_mem _ hr))
theorem rt_far (T : Nat → Rte) (p : Nat) (r : Rte) : (fun i => faN (updT T p r i)) = updI (fun i => faN (T i)) p (faN r) := by
  funext i
  unfold updT updI
  split <;> rfl
theorem rtS_far {M n p : Nat} {V : Nat → Int} {md X3 X4 : Int} {T : Nat → Rte} (hg : RtG M T) (hm : -3 ≤ md ∧ md ≤ -1) (e3 : V (p * 5 + 3) = X3) (e4 : V (p * 5 + 4) = X4) (h3 : (modB X3 = true ∧ -3 ≤ X3 ∧ X3 ≤ -1) ∨ (modB X3 = false ∧ (p : Int) + 1 ≤ X3 ∧ X3 ≤ (n : Int) - 1)) (h4 : (modB X4 = true ∧ -3 ≤ X4 ∧ X4 ≤ -1) ∨ (modB X4 = false ∧ (p : Int) + 1 ≤ X4 ∧ X4 ≤ (n : Int) - 1)) : faN (rtS V md T p) = fst2 (fun i => faN (T i)) md X3 X4 2 := by
  unfold rtS
  rw [e3, e4, far_step (md := md)]
  show _ = mnF (faX md _ X3) (faX md _ X4)
  rw [faX_is hg hm h3, faX_is hg hm h4]
/-- Along the route of the first step: what is left of it is the route of the step that is come to. -/
theorem way_on {n : Nat} {V : Nat → Int} {md : Int} (hn : 0 < n) (hp : planB n V = true) {k : Nat} {R : List Int} (hk : k < n) (hT : rtR V md (pls (dA n hn n)) k = (true, R)) : ∃ r, R = (k : Int) :: r ∧ (r ≠ [] → ∃ k' : Nat, k' < n ∧ nxX (fun i => faN (rtR V md (pls (dA n hn n)) i)) ((r.length : Int) + 1) (V (k * 5 + 4)) (nxX (fun i => faN (rtR V md (pls (dA n hn n)) i)) ((r.length : Int) + 1) (V (k * 5 + 3)) (-9)) = (k' : Int) ∧ rtR V md (pls (dA n hn n)) k' = (true, r)) := by
  have hf := rt_fix (md := md) hn hp hk
  have hg := rt_good V md (pls (dA n hn n))
  rw [hT] at hf
  unfold rtS frR at hf
  by_cases q : (btR (gR md (rtR V md (pls (dA n hn n))) (V (k * 5 + 3))) (gR md (rtR V md (pls (dA n hn n))) (V (k * 5 + 4)))).1 = true
  · rw [if_pos q] at hf
    obtain ⟨b1, b2⟩ : ∃ x y, btR (gR md (rtR V md (pls (dA n hn n))) (V (k * 5 + 3))) (gR md (rtR V md (pls (dA n hn n))) (V (k * 5 + 4))) = (x, y) := ⟨_, _, rfl⟩
    obtain ⟨r, hr⟩ := b2
    rw [hr] at hf q
    simp only at q
    subst q
    refine ⟨r, by injection hf, fun hne => ?_⟩
    exact next_is hg (pln_to hp hk 3 (.inl rfl)) (pln_to hp hk 4 (.inr rfl)) hr hne
  · rw [if_neg q] at hf
    injection hf with h1 _
    cases h1
theorem shV_len (n : Nat) (V : Nat → Int) (f : Int) : (shV n V f).length ≤ 40 := by
  unfold shV
  split
  · rename_i h
    have := (rt_good V f (pls (dA n (Nat.lt_of_lt_of_le Nat.zero_lt_one (plan_yes h.1).1) n)) 0).1
    have h2 := (plan_yes h.1).2
    rw [pls_len, dA_len] at this
    omega
  · simp
def TabC (bf n : Nat) (F : Nat → Int) (W : World) : Prop := bf < W.heap.size ∧ ∀ j, j < n → W.cell? ⟨bf, j, none⟩ = some (.int .i64 (F j))
theorem TabC.below {bf n : Nat} {F : Nat → Int} {W W' : World} (h : TabC bf n F W) (hb : Below W.heap.size W W') : TabC bf n F W' := ⟨Nat.lt_of_lt_of_le h.1 hb.size, fun j hj => (hb.cell (p := ⟨bf, j, none⟩) h.1).trans (h.2 j hj)⟩
def nxJ (F : Nat → Int) (m X3 X4 : Int) : Nat → Int
  | 0 => -9
  | 1 => nxX F m X3 (-9)
  | _ => nxX F m X4 (nxX F m X3 (-9))
theorem nxJ_on (F : Nat → Int) (m X3 X4 : Int) {j : Nat} (hj : j < 2) : nxJ F m X3 X4 (j + 1) = nxX F m (toX X3 X4 j) (nxJ F m X3 X4 j) := by
  rcases (show j = 0 ∨ j = 1 by omega) with rfl | rfl <;> rfl
def encZ (L : List Int) : List Value := L.map (fun x => .int .i64 x)
def ShPost (L : List Int) (w : World) (e : Ending) (w' : World) : Prop := ∃ s' c', e = .returned (.slice s' L.length c') ∧ OwnI w.heap.size w' s' L.length (fun j => L.getD j 0) ∧ Below w.heap.size w w'
theorem ownZ {base : Nat} {w : World} {v : Value} {L : List Int} (h : w.ownsRow base 2 1 v L.length (encZ L)) : ∃ t cap, v = .slice t L.length cap ∧ OwnI base w t L.length (fun j => L.getD j 0) := by
  have e : encZ L = vals (fun j => L.getD j 0) L.length := by
    apply List.ext_getElem?
    intro i
    unfold encZ vals
    simp only [List.getElem?_map]
    by_cases q : i < L.length
    · simp [q]
    · simp [q]
  have := own_OwnI (size := 1) (U := fun j => L.getD j 0) (by rw [Nat.mul_one]; rw [e] at h; exact h)
  rwa [Nat.mul_one] at this
theorem own_belowZ {base : Nat} {w w' : World} {v : Value} {n : Nat} {xs : List Value} (h : w.ownsRow base 2 1 v n xs) (hk : ∀ g, v.ownBlock = some g → g < w.heap.size → w'.heap[g]? = w.heap[g]?) : w'.ownsRow base 2 1 v n xs := by
  refine ⟨h.1, ?_⟩
  rcases h.2 with q | ⟨g, cap, cur, e, hb, hg, r⟩
  · exact .inl q
  · exact .inr ⟨g, cap, cur, e, hb, (hk g (by rw [e]; rfl) (Array.getElem?_eq_some_iff.1 hg).1).trans hg, r⟩
set_option maxRecDepth 20000 in
set_option maxHeartbeats 16000000 in
theorem specShortest_any (s : Option Addr) (n c : Nat) (V : Nat → Int) (f : Int) (w : World) (hn0 : (n : Int) ≤ 1048576) (HR : Hid (RowI w s (n * 5) V)) :
    Calls Try.prog 10 #[.slice s n c, .int .i64 f] w fun e w' => ShPost (shV n V f) w e w' := by
  go_enter Try.func10, Try.ntmps10
  go_upto_region 2 with fail
  have HO0 : Hid ((w.alloc (.cells #[] 2)).ownsRow w.heap.size 2 1 (.slice (some ⟨w.heap.size, 0, none⟩) 0 0) 0 []) := by
    show World.ownsRow _ _ _ _ _ _ _
    simpa using World.ownsRow_lit (base := w.heap.size) (size := 1) (e := 2) w #[] 0 (Nat.le_refl _) (by simp [maxLen]) (by simp)
  obtain ⟨w1, hw1⟩ : ∃ z, z = w.alloc (.cells #[] 2) := ⟨_, rfl⟩
  rw [← hw1] at HO0 ⊢
  have b1 : Below w.heap.size w w1 := by rw [hw1]; exact below0 _ _
  have HB1 : Hid (Below w.heap.size w w1) := b1
  have HRA : Hid (∀ W, Below w.heap.size w W → RowI W s (n * 5) V) := fun W h => HR.out.below h
  have HR1 : Hid (RowI w1 s (n * 5) V) := HR.out.below b1
  have z1 : w.heap.size < w1.heap.size := by rw [hw1]; simp
  clear hw1 b1
  go_wp2_with fail
  refine (specPlanOk_any s n c V w1 hn0 HR1).mono ?_
  rintro e w2 ⟨rfl, b2⟩
  have HB2 : Hid (Below w.heap.size w w2) := HB1.out.trans (b2.mono HB1.out.size)
  have HO2 : Hid (w2.ownsRow w.heap.size 2 1 (.slice (some ⟨w.heap.size, 0, none⟩) 0 0) 0 []) := own_belowZ HO0.out (fun g _ hz => b2.block g hz)
  have z2 : w.heap.size < w2.heap.size := Nat.lt_of_lt_of_le z1 b2.size
  clear b2 HR1 HB1 HO0 z1
  cases hp : planB n V
  case false =>
    have HV : Hid (shV n V f = []) := shV_no (by rw [hp]; simp)
    have BF := HB2.out
    clear hp
    go_wp2
    go_ret
    rw [HV.out]
    unfold ShPost
    exact ⟨_, 0, rfl, fun j hj => by simp at hj, BF⟩
  case true =>
    have hy := plan_yes hp
    have hn : 0 < n := by omega
    have h40 : (n : Int) ≤ 40 := by omega
    have HP : Hid (planB n V = true) := hp
    have hmk := make_fa n (by omega)
    clear hy hp
    go_wp2_with fail
    refine (l1In_is f (-3) (-1) _).mono ?_
    rintro e w3 ⟨rfl, rfl⟩
    rename World => w2
    by_cases hf : -3 ≤ f ∧ f ≤ -1
    case neg =>
      have hmd : ¬ modB f = true := by unfold modB inB; simp; omega
      have HV : Hid (shV n V f = []) := shV_no (fun q => hmd q.2)
      have hw : inB (-3) (-1) f = false := by unfold inB; simp; omega
      have BF := HB2.out
      try rw [hw]
      clear hf hmd
      go_wp2
      go_ret
      rw [HV.out]
      unfold ShPost
      exact ⟨_, 0, rfl, fun j hj => by simp at hj, BF⟩
    case pos =>
      have hmd : modB f = true := by unfold modB inB; simp; omega
      have HV : Hid (shV n V f = (rtR V f (pls (dA n hn n)) 0).2) := shV_yes HP.out hmd hn
      have hw : inB (-3) (-1) f = true := by unfold inB; simp; omega
      try rw [hw]
      have HF : Hid (-3 ≤ f ∧ f ≤ -1) := hf
      clear hw hmd hf
      go_upto_region 5 with fail
      obtain ⟨W0, hW0⟩ : ∃ z, z = w2.alloc (.cells (madeCells #[.int .i64 0] n) 3) := ⟨_, rfl⟩
      rw [← hW0]
      have bb : Below w2.heap.size w2 W0 := by rw [hW0]; exact below0 _ _
      have cf : ∀ j, j < n → W0.cell? ⟨w2.heap.size, j, none⟩ = some (.int .i64 0) := fun j hj => by
        rw [hW0]
        simp [go_sem, madeCells, hj]
        rw [Nat.mod_one]
        rfl
      have ff : ∀ j, W0.frozen? ⟨w2.heap.size, j, none⟩ = false := fun j => by rw [hW0]; simp [go_sem]
      have sz : W0.heap.size = w2.heap.size + 1 := by rw [hW0]; simp
      have HB0 : Hid (Below w.heap.size w W0) := HB2.out.trans (bb.mono HB2.out.size)
      have HOW : Hid (W0.ownsRow w.heap.size 2 1 (.slice (some ⟨w.heap.size, 0, none⟩) 0 0) 0 []) := own_belowZ HO2.out (fun g _ hz => bb.block g hz)
      obtain ⟨bf, hbf⟩ : ∃ z, z = w2.heap.size := ⟨_, rfl⟩
      rw [← hbf] at cf ff ⊢
      have HRW : Hid (RowI W0 s (n * 5) V) := HRA.out W0 HB0.out
      obtain ⟨n0, hn0'⟩ : ∃ z, z = W0.heap.size := ⟨_, rfl⟩
      have lf : bf < n0 := by omega
      have lw : w.heap.size < bf := by omega
      obtain ⟨b, o, hs, hbz, -⟩ := HR.out 0 (by omega)
      subst hs
      have HCS : Hid (∀ j, j < n * 5 → W0.cell? ⟨b, o + j, none⟩ = some (.int .i64 (V j))) := fun j hj => by
        obtain ⟨b', o', e, hz, hc⟩ := HRW.out j hj
        cases e
        exact hc
      have hbf2 : b ≠ bf := by omega
      have hb0 : b < n0 := by omega
      obtain ⟨gO, hgO⟩ : ∃ z, z = w.heap.size := ⟨_, rfl⟩
      have gO1 : gO < bf := by omega
      rw [← hgO] at HOW
      try rw [← hgO]
      have HG : Hid (gO = w.heap.size) := hgO
      have HT0 : Hid (TabAt n0 bf W0 n (fun i => faN (rtR V f (pls (dA n hn 0)) i)) W0) := ⟨KpB.refl _ _ _, fun j hj => cf j hj, ff, by omega⟩
      clear hmk hW0 bb cf ff sz hbf HRW hbz hn0' HB2 HO2 hgO z2
      go_wp2_with fail
      go_loopw [7] (fun i wx => ∃ k : Nat, k ≤ n ∧ i = .int .i64 ((k : Int) - 1) ∧ Hid (TabAt n0 bf W0 n (fun i => faN (rtR V f (pls (dA n hn (n - k))) i)) wx) ∧ Hid (Below w.heap.size w wx)) (fun i _ => ((intOf i) + 1).toNat)
      case atStart => exact ⟨n, Nat.le_refl _, rfl, by rw [Nat.sub_self]; exact HT0, HB0⟩
      case round =>
        clear HT0 HB0
        obtain ⟨k, hk, rfl, HT, HB⟩ := hrel
        cases k with
        | zero =>
          rw [Nat.sub_zero] at HT
          rename World => w5
          have hgd := rt_good V f (pls (dA n hn n))
          rw [pls_len, dA_len] at hgd
          have HWO : Hid (∀ k : Nat, k < n → ∀ R, rtR V f (pls (dA n hn n)) k = (true, R) → ∃ r, R = (k : Int) :: r ∧ (r ≠ [] → ∃ k' : Nat, k' < n ∧ nxX (fun i => faN (rtR V f (pls (dA n hn n)) i)) ((r.length : Int) + 1) (V (k * 5 + 4)) (nxX (fun i => faN (rtR V f (pls (dA n hn n)) i)) ((r.length : Int) + 1) (V (k * 5 + 3)) (-9)) = (k' : Int) ∧ rtR V f (pls (dA n hn n)) k' = (true, r))) := fun k hk R h => way_on hn HP.out hk h
          obtain ⟨T, hT⟩ : ∃ T : Nat → Rte, rtR V f (pls (dA n hn n)) = T := ⟨_, rfl⟩
          have HTO : Hid (∀ k : Nat, k < n → ∀ X, (X = V (k * 5 + 3) ∨ X = V (k * 5 + 4)) → -3 ≤ X ∧ X ≤ (n : Int) - 1) := fun k hk X h => by
            have t3 := pln_to HP.out hk 3 (.inl rfl)
            have t4 := pln_to HP.out hk 4 (.inr rfl)
            rcases h with rfl | rfl
            · rcases t3 with q | q <;> omega
            · rcases t4 with q | q <;> omega
          rw [hT] at HT HV HWO hgd
          clear hT
          obtain ⟨F, hF⟩ : ∃ F : Nat → Int, (fun i => faN (T i)) = F := ⟨_, rfl⟩
          rw [hF] at HT HWO
          have HFT : Hid (∀ i, F i = faN (T i)) := fun i => by rw [← hF]
          have HGD : Hid (RtG n T) := hgd
          have hFB : ∀ i, 0 ≤ F i ∧ F i ≤ (n : Int) := fun i => by rw [← hF]; exact faN_pos hgd i
          have HFB : Hid (∀ i, 0 ≤ F i ∧ F i ≤ (n : Int)) := hFB
          clear hF hgd hFB
          obtain ⟨R0, hR0⟩ : ∃ R, (T 0).2 = R := ⟨_, rfl⟩
          have hl0 : F 0 = (R0.length : Int) := by
            rw [HFT.out]
            unfold faN
            have g := HGD.out 0
            split
            · rw [hR0]
            · rename_i q
              have := g.2.2 (by simpa using q)
              rw [hR0] at this
              rw [this]; rfl
          have hT0 : R0 ≠ [] → T 0 = (true, R0) := fun q => by
            have g := HGD.out 0
            cases hc : (T 0).1
            · exact absurd (hR0.symm.trans (g.2.2 hc)) q
            · rw [← hR0, ← hc]
          have hll : R0.length ≤ n := by rw [← hR0]; exact (HGD.out 0).1
          have c0 := HT.out.2.1 0 hn
          have n1 : (0 : Int) < (n : Int) := by omega
          rw [hl0] at c0
          rw [hR0] at HV
          have HO5 : Hid (w5.ownsRow w.heap.size 2 1 (.slice (some ⟨gO, 0, none⟩) 0 0) (R0.take 0).length (encZ (R0.take 0))) := by
            show World.ownsRow _ _ _ _ _ _ _
            rw [HG.out.symm] 
            exact own_belowZ HOW.out (fun g hg hz => by
              have e : g = gO := by simpa [Value.ownBlock] using hg.symm
              exact HT.out.1.2 g (by omega) (by omega))
          have HA5 : Hid ((R0.drop 0) ≠ [] → ∃ k : Nat, k < n ∧ (0 : Int) = (k : Int) ∧ T k = (true, R0.drop 0)) := fun q => ⟨0, hn, rfl, hT0 q⟩
          have HZ5 : Hid ((0 : Int) ≤ 0 ∨ (0 : Int) = -9) := .inl (Int.le_refl _)
          have HTC : Hid (TabC bf n F w5) := ⟨Nat.lt_of_lt_of_le lf HT.out.2.2.2, HT.out.2.1⟩
          have HPC : Hid (∀ W, Below w.heap.size w W → ∀ j, j < n * 5 → W.cell? ⟨b, o + j, none⟩ = some (.int .i64 (V j))) := fun W hW j hj => by
            obtain ⟨b', o', e, hz, hc⟩ := HRA.out W hW j hj
            cases e
            exact hc
          clear HOW hR0 hl0 hT0 HT
          go_wp2_with fail
          go_loopw [5, 11, 12] (fun v a i wx => ∃ (j : Nat) (A : Int), j ≤ R0.length ∧ a = .int .i64 A ∧ i = .int .i64 ((R0.length : Int) - (j : Int)) ∧ Hid (wx.ownsRow w.heap.size 2 1 v (R0.take j).length (encZ (R0.take j))) ∧ Hid (v.ownBlock ≠ some bf) ∧ Hid (R0.drop j ≠ [] → ∃ k : Nat, k < n ∧ A = (k : Int) ∧ T k = (true, R0.drop j)) ∧ Hid (TabC bf n F wx) ∧ Hid (Below w.heap.size w wx)) (fun _ _ i _ => (intOf i).toNat)
          case atStart => exact ⟨0, 0, Nat.zero_le _, rfl, by simp, HO5, (by show _ ≠ _; simp [Value.ownBlock]; omega), HA5, HTC, HB⟩
          case round =>
            clear HO5 HA5 HTC HB HZ5 c0
            obtain ⟨j, A, hj, rfl, rfl, HO, HNB, HA, HT, HB⟩ := hrel
            rename World => wa
            by_cases hjl : j < R0.length
            case neg =>
              obtain rfl : j = R0.length := by omega
              rw [List.take_length] at HO
              obtain ⟨t, cap, e5, hOI⟩ := ownZ HO.out
              subst e5
              have HFo : Hid (OwnI w.heap.size wa t R0.length (fun j => R0.getD j 0)) := hOI
              have BF := HB.out
              rw [Int.sub_self]
              clear hOI hj hjl HO HNB HA HT
              go_wp2
              go_ret
              rw [HV.out]
              unfold ShPost
              exact ⟨t, cap, rfl, HFo.out, BF⟩
            case pos =>
              obtain ⟨k, hk, rfl, hTk⟩ := HA.out (by intro q; have := congrArg List.length q; simp at this; omega)
              obtain ⟨r, hr, hnx⟩ := HWO.out k hk _ hTk
              have hrl : (R0.length : Int) - (j : Int) = (r.length : Int) + 1 := by have := congrArg List.length hr; simp at this; omega
              have HRL : Hid ((R0.length : Int) - (j : Int) = (r.length : Int) + 1) := hrl
              have hrn : (r.length : Int) ≤ 40 := by omega
              have HDR : Hid (R0.drop (j + 1) = r) := by show _ = _; rw [← List.tail_drop, hr]; rfl
              have HTK : Hid (R0.take (j + 1) = R0.take j ++ [(k : Int)]) := by
                show _ = _
                rw [List.take_add_one]
                congr 1
                have : (R0.drop j)[0]? = some (k : Int) := by rw [hr]; rfl
                rw [List.getElem?_drop, Nat.add_zero] at this
                rw [this]; rfl
              have HNX : Hid (r ≠ [] → ∃ k' : Nat, k' < n ∧ nxX F ((r.length : Int) + 1) (V (k * 5 + 4)) (nxX F ((r.length : Int) + 1) (V (k * 5 + 3)) (-9)) = (k' : Int) ∧ T k' = (true, r)) := hnx
              rw [hrl]
              have to3 := HTO.out k hk _ (.inl rfl)
              have to4 := HTO.out k hk _ (.inr rfl)
              obtain ⟨X3, hX3⟩ : ∃ z, V (k * 5 + 3) = z := ⟨_, rfl⟩
              obtain ⟨X4, hX4⟩ : ∃ z, V (k * 5 + 4) = z := ⟨_, rfl⟩
              have HC3 : Hid (∀ W, Below w.heap.size w W → W.cell? ⟨b, o + k * 5 + 3, none⟩ = some (.int .i64 X3)) := fun W hW => by
                have := HPC.out W hW (k * 5 + 3) (by omega)
                rw [← Nat.add_assoc, hX3] at this
                exact this
              have HC4 : Hid (∀ W, Below w.heap.size w W → W.cell? ⟨b, o + k * 5 + 4, none⟩ = some (.int .i64 X4)) := fun W hW => by
                have := HPC.out W hW (k * 5 + 4) (by omega)
                rw [← Nat.add_assoc, hX4] at this
                exact this
              rw [hX3] at to3 HNX
              rw [hX4] at to4 HNX
              have HT3 : Hid (-3 ≤ X3 ∧ X3 ≤ (n : Int) - 1) := to3
              have HT4 : Hid (-3 ≤ X4 ∧ X4 ≤ (n : Int) - 1) := to4
              have kni : (k : Int) < (n : Int) := by omega
              have k0 : (0 : Int) ≤ (k : Int) := by omega
              have hzb : w.heap.size ≤ wa.heap.size := HB.out.size
              have hln : (R0.take j).length ≤ 40 := by simp; omega
              have rp : (0 : Int) < (r.length : Int) + 1 := by omega
              obtain ⟨La, hLa⟩ : ∃ z : Nat, (R0.take j).length = z := ⟨_, rfl⟩
              have HLA : Hid ((R0.take j).length = La) := hLa
              rw [hLa] at HO hln
              clear hLa
              obtain ⟨m, hm⟩ : ∃ z : Int, (r.length : Int) = z := ⟨_, rfl⟩
              have HMr : Hid ((r.length : Int) = m) := hm
              rw [hm] at hrn rp HNX
              try rw [hm]
              have hm0 : 0 ≤ m := by omega
              clear hX3 hX4 to3 to4 hr hnx hrl hTk HA hm
              go_wp2_with (first | (at_builtin; refine list_i64n w.heap.size u5 La (encZ (R0.take j)) _ _ (by rfl) (by rfl) (by rfl) (by rfl) HO.out (by omega) hzb ?_; intro g8 cap8 w8 o8 gr8 gn8 gz8))
              have HO8 : Hid (w8.ownsRow w.heap.size 2 1 (.slice (some ⟨g8, 0, none⟩) (La + 1) cap8) (R0.take (j + 1)).length (encZ (R0.take (j + 1)))) := by
                show World.ownsRow _ _ _ _ _ _ _
                rw [HTK.out, List.length_append, HLA.out]
                have e : encZ (R0.take j ++ [(k : Int)]) = encZ (R0.take j) ++ [.int .i64 (k : Int)] := List.map_append
                rw [e]
                exact o8
              have zT : bf < wa.heap.size := HT.out.1
              have HNB8 : Hid ((Value.slice (some ⟨g8, 0, none⟩) (La + 1) cap8).ownBlock ≠ some bf) := by
                show _ ≠ _
                intro q
                have q2 : g8 = bf := by simpa [Value.ownBlock] using q
                rcases gn8 with h | h
                · exact HNB.out (by rw [h, q2])
                · omega
              have HT8 : Hid (TabC bf n F w8) := by
                have kb : w8.heap[bf]? = wa.heap[bf]? := gr8.block bf zT (fun e => HNB.out e.symm)
                refine ⟨Nat.lt_of_lt_of_le zT gr8.size, fun j hj => ?_⟩
                rw [show w8.cell? ⟨bf, j, none⟩ = wa.cell? ⟨bf, j, none⟩ by simp only [World.cell?, kb]]; exact HT.out.2 j hj
              have HB8 : Hid (Below w.heap.size w w8) := HB.out.trans (grown_below gr8 hzb (own_block HO.out))
              clear o8 gr8 gn8 gz8 HO HNB HT HB hzb
              go_loopw [13, 14] (fun y q wx => ∃ i : Nat, i ≤ 2 ∧ q = .int .i64 (i : Int) ∧ y = .int .i64 (nxJ F (m + 1) X3 X4 i) ∧ Hid (wx.ownsRow w.heap.size 2 1 (.slice (some ⟨g8, 0, none⟩) (La + 1) cap8) (R0.take (j + 1)).length (encZ (R0.take (j + 1)))) ∧ Hid (TabC bf n F wx) ∧ Hid (Below w.heap.size w wx)) (fun _ q _ => 2 - (intOf q).toNat)
              case atStart => exact ⟨0, by omega, rfl, rfl, HO8, HT8, HB8⟩
              case round =>
                clear HO8 HT8 HB8
                obtain ⟨i, hi, rfl, rfl, HO, HT, HB⟩ := hrel
                rename World => wb
                by_cases hil : i < 2
                case neg =>
                  obtain rfl : i = 2 := by omega
                  have HA : Hid (R0.drop (j + 1) ≠ [] → ∃ k : Nat, k < n ∧ nxJ F (m + 1) X3 X4 2 = (k : Int) ∧ T k = (true, R0.drop (j + 1))) := by
                    show _ → _
                    rw [HDR.out]
                    exact HNX.out
                  have HEL : Hid (m = (R0.length : Int) - ((j + 1 : Nat) : Int)) := by
                    show _ = _
                    have h1 := HRL.out
                    have h2 := HMr.out
                    push_cast
                    omega
                  have HLE : Hid ((R0.take (j + 1)).length = La + 1) := by show _ = _; rw [HTK.out, List.length_append, HLA.out]; rfl
                  have mw : IntKind.i64.wrap (m + 1 - 1) = m + 1 - 1 := by rw [IntKind.wrap_i64]; omega
                  obtain ⟨A, hA⟩ : ∃ z, nxJ F (m + 1) X3 X4 2 = z := ⟨_, rfl⟩
                  rw [hA] at HA ⊢
                  have nx : ¬ ((2 : Nat) : Int) < 2 := by omega
                  clear hA hi hil HNX
                  go_wp2
                  refine ⟨⟨_, _, _, ⟨j + 1, by omega, A, rfl, by rw [← HEL.out], ?_, HNB8, ?_⟩, rfl, rfl, rfl⟩, ?_⟩
                  · have h := HO.out
                    rw [HLE.out] at h
                    have h2 := HLE.out
                    rw [List.length_take] at h2
                    rw [h2]
                    exact h
                  · exact fun q => HA.out (by intro e; have := congrArg List.length e; simp at this; omega)
                  · simp [intOf]; omega
                case pos =>
                  have j1 : (i : Int) < 2 := by omega
                  have HMO : Hid (nxJ F (m + 1) X3 X4 (i + 1) = nxX F (m + 1) (toX X3 X4 i) (nxJ F (m + 1) X3 X4 i)) := nxJ_on F (m + 1) X3 X4 hil
                  have HTX : Hid (-3 ≤ toX X3 X4 i ∧ toX X3 X4 i ≤ (n : Int) - 1) := by
                    show _ ∧ _
                    unfold toX
                    split
                    · exact HT3.out
                    · exact HT4.out
                  have e3 := HC3.out _ HB.out
                  have e4 := HC4.out _ HB.out
                  obtain ⟨X, hX⟩ : ∃ z, toX X3 X4 i = z := ⟨_, rfl⟩
                  have hlit : (#[Value.int .i64 X3, Value.int .i64 X4] : Array Value)[i]? = some (.int .i64 X) := by
                    rw [← hX]
                    rcases (show i = 0 ∨ i = 1 by omega) with rfl | rfl <;> rfl
                  rw [hX] at HMO HTX
                  obtain ⟨Y, hY⟩ : ∃ z, nxJ F (m + 1) X3 X4 i = z := ⟨_, rfl⟩
                  rw [hY] at HMO ⊢
                  clear hX hY HNX
                  go_upto_region 28 with fail
                  refine wp_region_held_drew (S := fun w' => w'.cell? ⟨b, o + k * 5 + 3, none⟩ = some (.int .i64 X3) ∧ w'.cell? ⟨b, o + k * 5 + 4, none⟩ = some (.int .i64 X4)) (by kernel_rfl) ?_ (fun hHeld => ?_)
                  · exact ⟨by simpa [go_sem] using e3, by simpa [go_sem] using e4⟩
                  obtain ⟨v0, hv0⟩ : ∃ z, z = wb.drew := ⟨_, rfl⟩
                  try rw [← hv0] at hHeld
                  rw [← hv0]
                  have bv0 : Below wb.heap.size wb v0 := by rw [hv0]; exact Below.drew (Below.refl _ _)
                  clear hv0
                  replace HO : Hid (v0.ownsRow w.heap.size 2 1 (.slice (some ⟨g8, 0, none⟩) (La + 1) cap8) (R0.take (j + 1)).length (encZ (R0.take (j + 1)))) := own_belowZ HO.out (fun g _ hz => bv0.block g hz)
                  replace HT : Hid (TabC bf n F v0) := HT.out.below bv0
                  replace HB : Hid (Below w.heap.size w v0) := HB.out.trans (bv0.mono HB.out.size)
                  clear bv0 e3 e4
                  refine wpAnyH_take (i := 0) (v := .slice (some ⟨b, o, none⟩) n c) rfl (by kernel_rfl) (by kernel_rfl) (by kernel_rfl) (fun _ _ _ h => h) (Or.inl ⟨by kernel_rfl, ?_⟩) hHeld ?_
                  · intro w' hSw
                    obtain ⟨s0_, s1_⟩ := hSw
                    first | (go_simp; done) | (go_simp; with_reducible rfl) | (go_simp; rw [IntKind.wrap_i64]; omega) | (go_simp; omega)
                  simp only [Act.put, List.setIfInBounds_toArray, List.set_cons_zero, List.set_cons_succ]
                  refine wpAnyH_take (i := 1) (v := .int .i64 (k : Int)) rfl (by kernel_rfl) (by kernel_rfl) (by kernel_rfl) (fun _ _ _ h => h) (Or.inl ⟨by kernel_rfl, ?_⟩) hHeld ?_
                  · intro w' hSw
                    obtain ⟨s0_, s1_⟩ := hSw
                    first | (go_simp; done) | (go_simp; with_reducible rfl) | (go_simp; rw [IntKind.wrap_i64]; omega) | (go_simp; omega)
                  simp only [Act.put, List.setIfInBounds_toArray, List.set_cons_zero, List.set_cons_succ]
                  refine wpAnyH_take (i := 2) (v := .pointer (some ⟨b, o + k * 5, none⟩)) rfl (by kernel_rfl) (by kernel_rfl) (by kernel_rfl) (fun _ _ _ h => h) (Or.inl ⟨by kernel_rfl, ?_⟩) hHeld ?_
                  · intro w' hSw
                    obtain ⟨s0_, s1_⟩ := hSw
                    first | (go_simp; done) | (go_simp; with_reducible rfl) | (go_simp; rw [IntKind.wrap_i64]; omega) | (go_simp; omega)
                  simp only [Act.put, List.setIfInBounds_toArray, List.set_cons_zero, List.set_cons_succ]
                  refine wpAnyH_take (i := 3) (v := .pointer (some ⟨b, o + k * 5 + 3, none⟩)) rfl (by kernel_rfl) (by kernel_rfl) (by kernel_rfl) (fun _ _ _ h => h) (Or.inl ⟨by kernel_rfl, ?_⟩) hHeld ?_
                  · intro w' hSw
                    obtain ⟨s0_, s1_⟩ := hSw
                    first | (go_simp; done) | (go_simp; with_reducible rfl) | (go_simp; rw [IntKind.wrap_i64]; omega) | (go_simp; omega)
                  simp only [Act.put, List.setIfInBounds_toArray, List.set_cons_zero, List.set_cons_succ]
                  refine wpAnyH_take (i := 4) (v := .int .i64 X3) rfl (by kernel_rfl) (by kernel_rfl) (by kernel_rfl) (fun _ _ _ h => h) (Or.inl ⟨by kernel_rfl, ?_⟩) hHeld ?_
                  · intro w' hSw
                    obtain ⟨s0_, s1_⟩ := hSw
                    first | (go_simp; done) | (go_simp; with_reducible rfl) | (go_simp; rw [IntKind.wrap_i64]; omega) | (go_simp; omega)
                  simp only [Act.put, List.setIfInBounds_toArray, List.set_cons_zero, List.set_cons_succ]
                  refine wpAnyH_take (i := 5) (v := .slice (some ⟨b, o, none⟩) n c) rfl (by kernel_rfl) (by kernel_rfl) (by kernel_rfl) (fun _ _ _ h => h) (Or.inl ⟨by kernel_rfl, ?_⟩) hHeld ?_
                  · intro w' hSw
                    obtain ⟨s0_, s1_⟩ := hSw
                    first | (go_simp; done) | (go_simp; with_reducible rfl) | (go_simp; rw [IntKind.wrap_i64]; omega) | (go_simp; omega)
                  simp only [Act.put, List.setIfInBounds_toArray, List.set_cons_zero, List.set_cons_succ]
                  refine wpAnyH_take (i := 6) (v := .int .i64 (k : Int)) rfl (by kernel_rfl) (by kernel_rfl) (by kernel_rfl) (fun _ _ _ h => h) (Or.inl ⟨by kernel_rfl, ?_⟩) hHeld ?_
                  · intro w' hSw
                    obtain ⟨s0_, s1_⟩ := hSw
                    first | (go_simp; done) | (go_simp; with_reducible rfl) | (go_simp; rw [IntKind.wrap_i64]; omega) | (go_simp; omega)
                  simp only [Act.put, List.setIfInBounds_toArray, List.set_cons_zero, List.set_cons_succ]
                  refine wpAnyH_take (i := 7) (v := .pointer (some ⟨b, o + k * 5, none⟩)) rfl (by kernel_rfl) (by kernel_rfl) (by kernel_rfl) (fun _ _ _ h => h) (Or.inl ⟨by kernel_rfl, ?_⟩) hHeld ?_
                  · intro w' hSw
                    obtain ⟨s0_, s1_⟩ := hSw
                    first | (go_simp; done) | (go_simp; with_reducible rfl) | (go_simp; rw [IntKind.wrap_i64]; omega) | (go_simp; omega)
                  simp only [Act.put, List.setIfInBounds_toArray, List.set_cons_zero, List.set_cons_succ]
                  refine wpAnyH_take (i := 8) (v := .pointer (some ⟨b, o + k * 5 + 4, none⟩)) rfl (by kernel_rfl) (by kernel_rfl) (by kernel_rfl) (fun _ _ _ h => h) (Or.inl ⟨by kernel_rfl, ?_⟩) hHeld ?_
                  · intro w' hSw
                    obtain ⟨s0_, s1_⟩ := hSw
                    first | (go_simp; done) | (go_simp; with_reducible rfl) | (go_simp; rw [IntKind.wrap_i64]; omega) | (go_simp; omega)
                  simp only [Act.put, List.setIfInBounds_toArray, List.set_cons_zero, List.set_cons_succ]
                  refine wpAnyH_take (i := 9) (v := .int .i64 X4) rfl (by kernel_rfl) (by kernel_rfl) (by kernel_rfl) (fun _ _ _ h => h) (Or.inl ⟨by kernel_rfl, ?_⟩) hHeld ?_
                  · intro w' hSw
                    obtain ⟨s0_, s1_⟩ := hSw
                    first | (go_simp; done) | (go_simp; with_reducible rfl) | (go_simp; rw [IntKind.wrap_i64]; omega) | (go_simp; omega)
                  simp only [Act.put, List.setIfInBounds_toArray, List.set_cons_zero, List.set_cons_succ]
                  refine wpAnyH_take (i := 11) (v := .int .i64 (i : Int)) rfl (by kernel_rfl) (by kernel_rfl) (by kernel_rfl) (fun _ _ _ h => h) (Or.inl ⟨by kernel_rfl, ?_⟩) hHeld ?_
                  · intro w' hSw
                    obtain ⟨s0_, s1_⟩ := hSw
                    first | (go_simp; done) | (go_simp; with_reducible rfl) | (go_simp; rw [IntKind.wrap_i64]; omega) | (go_simp; omega)
                  simp only [Act.put, List.setIfInBounds_toArray, List.set_cons_zero, List.set_cons_succ]
                  refine wpAnyH_ready (rs := [10]) (by kernel_rfl) (by simp) ?_
                  refine (AllReadyH.cons rfl (fun KK hK => ?_) AllReadyH.nil)
                  go_simp
                  obtain ⟨v0_1, hV_⟩ : ∃ z, z = v0.alloc (.cells #[.int .i64 X3, .int .i64 X4] 2) := ⟨_, rfl⟩
                  rw [← hV_]
                  have bl_ : Below v0.heap.size v0 v0_1 := by rw [hV_]; exact below0 _ _
                  have lx : v0_1.cell? ⟨v0.heap.size, i, none⟩ = some (.int .i64 X) := by rw [hV_]; simp [go_sem, hlit]
                  obtain ⟨g9, hg9⟩ : ∃ z, z = v0.heap.size := ⟨_, rfl⟩
                  rw [← hg9] at lx ⊢
                  replace HO : Hid (v0_1.ownsRow w.heap.size 2 1 (.slice (some ⟨g8, 0, none⟩) (La + 1) cap8) (R0.take (j + 1)).length (encZ (R0.take (j + 1)))) := own_belowZ HO.out (fun g _ hz => bl_.block g hz)
                  replace HT : Hid (TabC bf n F v0_1) := HT.out.below bl_
                  replace HB : Hid (Below w.heap.size w v0_1) := HB.out.trans (bl_.mono HB.out.size)
                  clear hV_ hg9 bl_
                  refine hK.out _ _ (⟨HC3.out _ HB.out, HC4.out _ HB.out⟩) (fun hHeld => ?_)
                  clear hK KK
                  refine wpAnyH_take (i := 12) (v := .pointer (some ⟨g9, i, none⟩)) rfl (by kernel_rfl) (by kernel_rfl) (by kernel_rfl) (fun _ _ _ h => h) (Or.inl ⟨by kernel_rfl, ?_⟩) hHeld ?_
                  · intro w' hSw
                    obtain ⟨s0_, s1_⟩ := hSw
                    first | (go_simp; done) | (go_simp; with_reducible rfl) | (go_simp; rw [IntKind.wrap_i64]; omega) | (go_simp; omega)
                  simp only [Act.put, List.setIfInBounds_toArray, List.set_cons_zero, List.set_cons_succ]
                  refine wpAnyH_ready (rs := [13]) (by kernel_rfl) (by simp) ?_
                  refine (AllReadyH.cons rfl (fun KK hK => ?_) AllReadyH.nil)
                  go_simp
                  refine hK.out _ _ (hHeld) (fun hHeld => ?_)
                  clear hK KK
                  refine wpAnyH_ready (rs := [14]) (by kernel_rfl) (by simp) ?_
                  refine AllReadyH.cons rfl (fun KK hK => ?_) AllReadyH.nil
                  go_simp
                  refine hK.out _ _ hHeld (fun hHeld => ?_)
                  clear hK KK
                  refine wpAnyH_done (by kernel_rfl) ?_ _
                  clear hHeld
                  clear lx
                  have m1w : IntKind.i64.wrap (m + 1 - 1) = m + 1 - 1 := by rw [IntKind.wrap_i64]; omega
                  by_cases x0 : 0 ≤ X
                  case neg =>
                    have d0 : decide (0 ≤ X) = false := decide_eq_false x0
                    have hno : ¬ okX F (m + 1) X = true := by unfold okX; rw [decide_eq_true_iff]; exact fun q => x0 q.1
                    have HMX : Hid (nxJ F (m + 1) X3 X4 (i + 1) = Y) := by
                      show _ = _
                      rw [HMO.out]
                      unfold nxX
                      rw [if_neg (fun q => hno q.1)]
                    clear HMO
                    go_wp2
                    go_roundw
                    case rel => exact ⟨i + 1, by omega, by go_num, by rw [HMX.out], HO, HT, HB⟩
                    case measure => simp [intOf]; omega
                  case pos =>
                    have d0 : decide (0 ≤ X) = true := decide_eq_true x0
                    by_cases m1 : 1 < m + 1
                    case neg =>
                      have d1 : decide (1 < m + 1) = false := decide_eq_false m1
                      have hno : ¬ okX F (m + 1) X = true := by unfold okX; rw [decide_eq_true_iff]; exact fun q => m1 q.2.1
                      have HMX : Hid (nxJ F (m + 1) X3 X4 (i + 1) = Y) := by
                        show _ = _
                        rw [HMO.out]
                        unfold nxX
                        rw [if_neg (fun q => hno q.1)]
                      clear HMO
                      go_wp2
                      go_roundw
                      case rel => exact ⟨i + 1, by omega, by go_num, by rw [HMX.out], HO, HT, HB⟩
                      case measure => simp [intOf]; omega
                    case pos =>
                      have d1 : decide (1 < m + 1) = true := decide_eq_true m1
                      obtain ⟨xk, hxk⟩ : ∃ k : Nat, X = (k : Int) := ⟨X.toNat, by omega⟩
                      subst hxk
                      have hx1 := HTX.out.2
                      have xkn : xk < n := by omega
                      have xki : (xk : Int) < (n : Int) := by omega
                      have cx := HT.out.2 xk xkn
                      by_cases t0 : F xk = m
                      case neg =>
                        have d2 : (F xk == m) = false := by simpa using t0
                        have hno : ¬ okX F (m + 1) (xk : Int) = true := by unfold okX; rw [decide_eq_true_iff, Int.toNat_natCast]; exact fun q => t0 (by have := q.2.2; omega)
                        clear t0
                        have HMX : Hid (nxJ F (m + 1) X3 X4 (i + 1) = Y) := by
                          show _ = _
                          rw [HMO.out]
                          unfold nxX
                          rw [if_neg (fun q => hno q.1)]
                        clear HMO
                        go_wp2
                        go_roundw
                        case rel => exact ⟨i + 1, by omega, by go_num, by rw [HMX.out], HO, HT, HB⟩
                        case measure => simp [intOf]; omega
                      case pos =>
                        have d2 : (F xk == m) = true := by simpa using t0
                        have hok : okX F (m + 1) (xk : Int) = true := by unfold okX; rw [decide_eq_true_iff, Int.toNat_natCast]; exact ⟨x0, m1, by omega⟩
                        clear t0
                        by_cases y0 : Y < 0
                        case pos =>
                          have d3 : decide (Y < 0) = true := decide_eq_true y0
                          have hyy : Y < 0 ∨ (xk : Int) < Y := .inl y0
                          have HMX : Hid (nxJ F (m + 1) X3 X4 (i + 1) = (xk : Int)) := by
                            show _ = _
                            rw [HMO.out]
                            unfold nxX
                            rw [if_pos ⟨hok, hyy⟩]
                          clear HMO hok hyy
                          go_wp2
                          go_roundw
                          case rel => exact ⟨i + 1, by omega, by go_num, by rw [HMX.out], HO, HT, HB⟩
                          case measure => simp [intOf]; omega
                        case neg =>
                          have d3 : decide (Y < 0) = false := decide_eq_false y0
                          by_cases y1 : (xk : Int) < Y
                          case pos =>
                            have d4 : decide ((xk : Int) < Y) = true := decide_eq_true y1
                            have hyy : Y < 0 ∨ (xk : Int) < Y := .inr y1
                            have HMX : Hid (nxJ F (m + 1) X3 X4 (i + 1) = (xk : Int)) := by
                              show _ = _
                              rw [HMO.out]
                              unfold nxX
                              rw [if_pos ⟨hok, hyy⟩]
                            clear HMO hok hyy
                            go_wp2
                            go_roundw
                            case rel => exact ⟨i + 1, by omega, by go_num, by rw [HMX.out], HO, HT, HB⟩
                            case measure => simp [intOf]; omega
                          case neg =>
                            have d4 : decide ((xk : Int) < Y) = false := decide_eq_false y1
                            have HMX : Hid (nxJ F (m + 1) X3 X4 (i + 1) = Y) := by
                              show _ = _
                              rw [HMO.out]
                              unfold nxX
                              rw [if_neg (fun q => q.2.elim y0 y1)]
                            clear HMO
                            go_wp2
                            go_roundw
                            case rel => exact ⟨i + 1, by omega, by go_num, by rw [HMX.out], HO, HT, HB⟩
                            case measure => simp [intOf]; omega
        | succ p =>
          clear HOW HV
          have e : (((p + 1 : Nat) : Int) - 1) = (p : Int) := by omega
          have hpn : p < n := by omega
          have hpi : (p : Int) < (n : Int) := by omega
          have hp0 : (0 : Int) ≤ (p : Int) := by omega
          rw [e]
          clear e
          rw [show n - (p + 1) = n - 1 - p by omega] at HT
          have hgd := rt_good V f (pls (dA n hn (n - 1 - p)))
          rw [pls_len, dA_len] at hgd
          have hz : rtR V f (pls (dA n hn (n - 1 - p))) p = (false, []) := rt_out _ _ dA_not
          have to3 := pln_to HP.out hpn 3 (.inl rfl)
          have to4 := pln_to HP.out hpn 4 (.inr rfl)
          have HN : Hid ((fun i => faN (rtR V f (pls (dA n hn (n - p))) i)) = updI (fun i => faN (rtR V f (pls (dA n hn (n - 1 - p))) i)) p (fst2 (fun i => faN (rtR V f (pls (dA n hn (n - 1 - p))) i)) f (V (p * 5 + 3)) (V (p * 5 + 4)) 2)) := by
            show _ = _
            rw [← rtS_far hgd HF.out rfl rfl to3 to4, ← rt_far, show n - p = n - 1 - p + 1 by omega, dA_succ, pls_snoc]
            simp only [rtR]
            rw [show n - 1 - (n - 1 - p) = p by omega]
          have hin : ∀ i, 0 ≤ faN (rtR V f (pls (dA n hn (n - 1 - p))) i) ∧ faN (rtR V f (pls (dA n hn (n - 1 - p))) i) ≤ ((n - 1 - p : Nat) : Int) := faN_pos hgd
          have hz' : faN (rtR V f (pls (dA n hn (n - 1 - p))) p) = 0 := by rw [hz]; rfl
          obtain ⟨T, hT⟩ : ∃ T : Nat → Int, (fun i => faN (rtR V f (pls (dA n hn (n - 1 - p))) i)) = T := ⟨_, rfl⟩
          rw [hT] at HT HN
          have HIN : Hid (∀ i, 0 ≤ T i ∧ T i ≤ ((n - 1 - p : Nat) : Int)) := by show ∀ i, _; rw [← hT]; exact hin
          replace hz : T p = 0 := by rw [← hT]; exact hz'
          clear hT hin hz' hgd
          obtain ⟨X3, hX3⟩ : ∃ z, V (p * 5 + 3) = z := ⟨_, rfl⟩
          obtain ⟨X4, hX4⟩ : ∃ z, V (p * 5 + 4) = z := ⟨_, rfl⟩
          have cs3 := HCS.out (p * 5 + 3) (by omega)
          have cs4 := HCS.out (p * 5 + 4) (by omega)
          rw [← Nat.add_assoc] at cs3 cs4
          rw [hX3] at cs3 to3 HN
          rw [hX4] at cs4 to4 HN
          have HC3 : Hid (W0.cell? ⟨b, o + p * 5 + 3, none⟩ = some (.int .i64 X3)) := cs3
          have HC4 : Hid (W0.cell? ⟨b, o + p * 5 + 4, none⟩ = some (.int .i64 X4)) := cs4
          have HT3 : Hid ((modB X3 = true ∧ -3 ≤ X3 ∧ X3 ≤ -1) ∨ (modB X3 = false ∧ (p : Int) + 1 ≤ X3 ∧ X3 ≤ (n : Int) - 1)) := to3
          have HT4 : Hid ((modB X4 = true ∧ -3 ≤ X4 ∧ X4 ≤ -1) ∨ (modB X4 = false ∧ (p : Int) + 1 ≤ X4 ∧ X4 ≤ (n : Int) - 1)) := to4
          have HM : Hid (TabAt n0 bf W0 n (updI T p (fst2 T f X3 X4 0)) wr) := by
            show TabAt _ _ _ _ _ _
            have : updI T p (fst2 T f X3 X4 0) = T := by show updI T p 0 = T; rw [← hz]; exact updI_self T p
            rw [this]
            exact HT.out
          clear hX3 hX4 cs3 cs4 to3 to4 hz HT
          rename World => wa
          go_wp2_with fail
          go_loopw [8] (fun q wx => ∃ j : Nat, j ≤ 2 ∧ q = .int .i64 (j : Int) ∧ Hid (TabAt n0 bf W0 n (updI T p (fst2 T f X3 X4 j)) wx) ∧ Hid (Below w.heap.size w wx)) (fun q _ => 2 - (intOf q).toNat)
          case atStart => exact ⟨0, by omega, rfl, HM, HB⟩
          case round =>
            clear HM HB
            obtain ⟨j, hj, rfl, HM, HB⟩ := hrel
            by_cases hjl : j < 2
            case neg =>
              obtain rfl : j = 2 := by omega
              rw [← HN.out] at HM
              have nx : ¬ ((2 : Nat) : Int) < 2 := by omega
              clear hj hjl HN HT3 HT4
              go_wp2
              go_roundw
              case rel => exact ⟨p, by omega, rfl, HM, HB⟩
              case measure => first | (simp [intOf]; done) | (simp [intOf]; omega)
            case pos =>
              have j1 : (j : Int) < 2 := by omega
              have HMO : Hid (fst2 T f X3 X4 (j + 1) = mnF (fst2 T f X3 X4 j) (faX f T (toX X3 X4 j))) := fst2_on (fun i => (HIN.out i).1) hjl
              have HTX : Hid ((modB (toX X3 X4 j) = true ∧ -3 ≤ toX X3 X4 j ∧ toX X3 X4 j ≤ -1) ∨ (modB (toX X3 X4 j) = false ∧ (p : Int) + 1 ≤ toX X3 X4 j ∧ toX X3 X4 j ≤ (n : Int) - 1)) := by
                show _ ∨ _
                unfold toX
                split
                · exact HT3.out
                · exact HT4.out
              have e3 := (HM.out.1.cell (p := ⟨b, o + p * 5 + 3, none⟩) hb0 hbf2).trans HC3.out
              have e4 := (HM.out.1.cell (p := ⟨b, o + p * 5 + 4, none⟩) hb0 hbf2).trans HC4.out
              obtain ⟨X, hX⟩ : ∃ z, toX X3 X4 j = z := ⟨_, rfl⟩
              have hlit : (#[Value.int .i64 X3, Value.int .i64 X4] : Array Value)[j]? = some (.int .i64 X) := by
                rw [← hX]
                rcases (show j = 0 ∨ j = 1 by omega) with rfl | rfl <;> rfl
              rw [hX] at HMO HTX
              clear hX
              rename World => wb
              go_upto_region 11 with fail
              refine wp_region_held_drew (S := fun w' => w'.cell? ⟨b, o + p * 5 + 3, none⟩ = some (.int .i64 X3) ∧ w'.cell? ⟨b, o + p * 5 + 4, none⟩ = some (.int .i64 X4)) (by kernel_rfl) ?_ (fun hHeld => ?_)
              · exact ⟨by simpa [go_sem] using e3, by simpa [go_sem] using e4⟩
              obtain ⟨v0, hv0⟩ : ∃ z, z = wb.drew := ⟨_, rfl⟩
              try rw [← hv0] at hHeld
              rw [← hv0]
              have bv0 : Below wb.heap.size wb v0 := by rw [hv0]; exact Below.drew (Below.refl _ _)
              clear hv0
              replace HM : Hid (TabAt n0 bf W0 n (updI T p (fst2 T f X3 X4 j)) v0) := HM.out.below bv0 lf
              replace HB : Hid (Below w.heap.size w v0) := HB.out.trans (bv0.mono HB.out.size)
              clear bv0 e3 e4
              refine wpAnyH_take (i := 0) (v := .slice (some ⟨b, o, none⟩) n c) rfl (by kernel_rfl) (by kernel_rfl) (by kernel_rfl) (fun _ _ _ h => h) (Or.inl ⟨by kernel_rfl, ?_⟩) hHeld ?_
              · intro w' hSw
                obtain ⟨s0_, s1_⟩ := hSw
                first | (go_simp; done) | (go_simp; with_reducible rfl) | (go_simp; rw [IntKind.wrap_i64]; omega) | (go_simp; omega)
              simp only [Act.put, List.setIfInBounds_toArray, List.set_cons_zero, List.set_cons_succ]
              refine wpAnyH_take (i := 1) (v := .int .i64 (p : Int)) rfl (by kernel_rfl) (by kernel_rfl) (by kernel_rfl) (fun _ _ _ h => h) (Or.inl ⟨by kernel_rfl, ?_⟩) hHeld ?_
              · intro w' hSw
                obtain ⟨s0_, s1_⟩ := hSw
                first | (go_simp; done) | (go_simp; with_reducible rfl) | (go_simp; rw [IntKind.wrap_i64]; omega) | (go_simp; omega)
              simp only [Act.put, List.setIfInBounds_toArray, List.set_cons_zero, List.set_cons_succ]
              refine wpAnyH_take (i := 2) (v := .pointer (some ⟨b, o + p * 5, none⟩)) rfl (by kernel_rfl) (by kernel_rfl) (by kernel_rfl) (fun _ _ _ h => h) (Or.inl ⟨by kernel_rfl, ?_⟩) hHeld ?_
              · intro w' hSw
                obtain ⟨s0_, s1_⟩ := hSw
                first | (go_simp; done) | (go_simp; with_reducible rfl) | (go_simp; rw [IntKind.wrap_i64]; omega) | (go_simp; omega)
              simp only [Act.put, List.setIfInBounds_toArray, List.set_cons_zero, List.set_cons_succ]
              refine wpAnyH_take (i := 3) (v := .pointer (some ⟨b, o + p * 5 + 3, none⟩)) rfl (by kernel_rfl) (by kernel_rfl) (by kernel_rfl) (fun _ _ _ h => h) (Or.inl ⟨by kernel_rfl, ?_⟩) hHeld ?_
              · intro w' hSw
                obtain ⟨s0_, s1_⟩ := hSw
                first | (go_simp; done) | (go_simp; with_reducible rfl) | (go_simp; rw [IntKind.wrap_i64]; omega) | (go_simp; omega)
              simp only [Act.put, List.setIfInBounds_toArray, List.set_cons_zero, List.set_cons_succ]
              refine wpAnyH_take (i := 4) (v := .int .i64 X3) rfl (by kernel_rfl) (by kernel_rfl) (by kernel_rfl) (fun _ _ _ h => h) (Or.inl ⟨by kernel_rfl, ?_⟩) hHeld ?_
              · intro w' hSw
                obtain ⟨s0_, s1_⟩ := hSw
                first | (go_simp; done) | (go_simp; with_reducible rfl) | (go_simp; rw [IntKind.wrap_i64]; omega) | (go_simp; omega)
              simp only [Act.put, List.setIfInBounds_toArray, List.set_cons_zero, List.set_cons_succ]
              refine wpAnyH_take (i := 5) (v := .slice (some ⟨b, o, none⟩) n c) rfl (by kernel_rfl) (by kernel_rfl) (by kernel_rfl) (fun _ _ _ h => h) (Or.inl ⟨by kernel_rfl, ?_⟩) hHeld ?_
              · intro w' hSw
                obtain ⟨s0_, s1_⟩ := hSw
                first | (go_simp; done) | (go_simp; with_reducible rfl) | (go_simp; rw [IntKind.wrap_i64]; omega) | (go_simp; omega)
              simp only [Act.put, List.setIfInBounds_toArray, List.set_cons_zero, List.set_cons_succ]
              refine wpAnyH_take (i := 6) (v := .int .i64 (p : Int)) rfl (by kernel_rfl) (by kernel_rfl) (by kernel_rfl) (fun _ _ _ h => h) (Or.inl ⟨by kernel_rfl, ?_⟩) hHeld ?_
              · intro w' hSw
                obtain ⟨s0_, s1_⟩ := hSw
                first | (go_simp; done) | (go_simp; with_reducible rfl) | (go_simp; rw [IntKind.wrap_i64]; omega) | (go_simp; omega)
              simp only [Act.put, List.setIfInBounds_toArray, List.set_cons_zero, List.set_cons_succ]
              refine wpAnyH_take (i := 7) (v := .pointer (some ⟨b, o + p * 5, none⟩)) rfl (by kernel_rfl) (by kernel_rfl) (by kernel_rfl) (fun _ _ _ h => h) (Or.inl ⟨by kernel_rfl, ?_⟩) hHeld ?_
              · intro w' hSw
                obtain ⟨s0_, s1_⟩ := hSw
                first | (go_simp; done) | (go_simp; with_reducible rfl) | (go_simp; rw [IntKind.wrap_i64]; omega) | (go_simp; omega)
              simp only [Act.put, List.setIfInBounds_toArray, List.set_cons_zero, List.set_cons_succ]
              refine wpAnyH_take (i := 8) (v := .pointer (some ⟨b, o + p * 5 + 4, none⟩)) rfl (by kernel_rfl) (by kernel_rfl) (by kernel_rfl) (fun _ _ _ h => h) (Or.inl ⟨by kernel_rfl, ?_⟩) hHeld ?_
              · intro w' hSw
                obtain ⟨s0_, s1_⟩ := hSw
                first | (go_simp; done) | (go_simp; with_reducible rfl) | (go_simp; rw [IntKind.wrap_i64]; omega) | (go_simp; omega)
              simp only [Act.put, List.setIfInBounds_toArray, List.set_cons_zero, List.set_cons_succ]
              refine wpAnyH_take (i := 9) (v := .int .i64 X4) rfl (by kernel_rfl) (by kernel_rfl) (by kernel_rfl) (fun _ _ _ h => h) (Or.inl ⟨by kernel_rfl, ?_⟩) hHeld ?_
              · intro w' hSw
                obtain ⟨s0_, s1_⟩ := hSw
                first | (go_simp; done) | (go_simp; with_reducible rfl) | (go_simp; rw [IntKind.wrap_i64]; omega) | (go_simp; omega)
              simp only [Act.put, List.setIfInBounds_toArray, List.set_cons_zero, List.set_cons_succ]
              refine wpAnyH_take (i := 11) (v := .int .i64 (j : Int)) rfl (by kernel_rfl) (by kernel_rfl) (by kernel_rfl) (fun _ _ _ h => h) (Or.inl ⟨by kernel_rfl, ?_⟩) hHeld ?_
              · intro w' hSw
                obtain ⟨s0_, s1_⟩ := hSw
                first | (go_simp; done) | (go_simp; with_reducible rfl) | (go_simp; rw [IntKind.wrap_i64]; omega) | (go_simp; omega)
              simp only [Act.put, List.setIfInBounds_toArray, List.set_cons_zero, List.set_cons_succ]
              refine wpAnyH_ready (rs := [10]) (by kernel_rfl) (by simp) ?_
              refine (AllReadyH.cons rfl (fun KK hK => ?_) AllReadyH.nil)
              go_simp
              obtain ⟨v0_1, hV_⟩ : ∃ z, z = v0.alloc (.cells #[.int .i64 X3, .int .i64 X4] 2) := ⟨_, rfl⟩
              rw [← hV_]
              have bl_ : Below v0.heap.size v0 v0_1 := by rw [hV_]; exact below0 _ _
              have lx : v0_1.cell? ⟨v0.heap.size, j, none⟩ = some (.int .i64 X) := by rw [hV_]; simp [go_sem, hlit]
              obtain ⟨g9, hg9⟩ : ∃ z, z = v0.heap.size := ⟨_, rfl⟩
              rw [← hg9] at lx ⊢
              replace HM : Hid (TabAt n0 bf W0 n (updI T p (fst2 T f X3 X4 j)) v0_1) := HM.out.below bl_ lf
              replace HB : Hid (Below w.heap.size w v0_1) := HB.out.trans (bl_.mono HB.out.size)
              clear hV_ hg9 bl_
              refine hK.out _ _ (⟨(HM.out.1.cell (p := ⟨b, o + p * 5 + 3, none⟩) hb0 hbf2).trans HC3.out, (HM.out.1.cell (p := ⟨b, o + p * 5 + 4, none⟩) hb0 hbf2).trans HC4.out⟩) (fun hHeld => ?_)
              clear hK KK
              refine wpAnyH_take (i := 12) (v := .pointer (some ⟨g9, j, none⟩)) rfl (by kernel_rfl) (by kernel_rfl) (by kernel_rfl) (fun _ _ _ h => h) (Or.inl ⟨by kernel_rfl, ?_⟩) hHeld ?_
              · intro w' hSw
                obtain ⟨s0_, s1_⟩ := hSw
                first | (go_simp; done) | (go_simp; with_reducible rfl) | (go_simp; rw [IntKind.wrap_i64]; omega) | (go_simp; omega)
              simp only [Act.put, List.setIfInBounds_toArray, List.set_cons_zero, List.set_cons_succ]
              refine wpAnyH_ready (rs := [13]) (by kernel_rfl) (by simp) ?_
              refine (AllReadyH.cons rfl (fun KK hK => ?_) AllReadyH.nil)
              go_simp
              refine hK.out _ _ (hHeld) (fun hHeld => ?_)
              clear hK KK
              refine wpAnyH_ready (rs := [14]) (by kernel_rfl) (by simp) ?_
              refine AllReadyH.cons rfl (fun KK hK => ?_) AllReadyH.nil
              go_simp
              refine hK.out _ _ hHeld (fun hHeld => ?_)
              clear hK KK
              refine wpAnyH_done (by kernel_rfl) ?_ _
              clear hHeld
              clear lx
              obtain ⟨M, hM⟩ : ∃ z, fst2 T f X3 X4 j = z := ⟨_, rfl⟩
              have cM : v0_1.cell? ⟨bf, p, none⟩ = some (.int .i64 M) := by have := HM.out.2.1 p hpn; rw [updI_same, hM] at this; exact this
              by_cases hXx : X = f
              case pos =>
                have hnn : faX f T X = 1 := by unfold faX; rw [if_pos hXx]
                have dx : (X == f) = true := by simpa using hXx
                clear hXx
                by_cases m0 : M = 0
                case pos =>
                  have d0 : (M == 0) = true := by simpa using m0
                  have HM9 : Hid (TabAt n0 bf W0 n (updI T p (fst2 T f X3 X4 (j + 1))) (v0_1.setCell ⟨bf, p, none⟩ (.int .i64 (1)))) := by
                    show TabAt _ _ _ _ _ _
                    rw [HMO.out, hM, hnn, mnF_to (by omega) (by omega)]
                    exact HM.out.put lf hpn
                  have HB9 : Hid (Below w.heap.size w (v0_1.setCell ⟨bf, p, none⟩ (.int .i64 (1)))) := HB.out.trans ((Beside.setCell bf v0_1 p (.int .i64 (1))).below (by omega) HB.out.size)
                  have fp := HM.out.2.2.1 p
                  clear hnn hM
                  go_wp2
                  go_roundw
                  case rel => exact ⟨j + 1, by omega, by go_num, HM9, HB9⟩
                  case measure => simp [intOf]; omega
                case neg =>
                  have d0 : (M == 0) = false := by simpa using m0
                  by_cases m1 : 1 < M
                  case pos =>
                    have d1 : decide (1 < M) = true := decide_eq_true m1
                    have HM9 : Hid (TabAt n0 bf W0 n (updI T p (fst2 T f X3 X4 (j + 1))) (v0_1.setCell ⟨bf, p, none⟩ (.int .i64 (1)))) := by
                      show TabAt _ _ _ _ _ _
                      rw [HMO.out, hM, hnn, mnF_to (by omega) (by omega)]
                      exact HM.out.put lf hpn
                    have HB9 : Hid (Below w.heap.size w (v0_1.setCell ⟨bf, p, none⟩ (.int .i64 (1)))) := HB.out.trans ((Beside.setCell bf v0_1 p (.int .i64 (1))).below (by omega) HB.out.size)
                    have fp := HM.out.2.2.1 p
                    clear hnn hM
                    go_wp2
                    go_roundw
                    case rel => exact ⟨j + 1, by omega, by go_num, HM9, HB9⟩
                    case measure => simp [intOf]; omega
                  case neg =>
                    have d1 : decide (1 < M) = false := decide_eq_false m1
                    have HM9 : Hid (TabAt n0 bf W0 n (updI T p (fst2 T f X3 X4 (j + 1))) v0_1) := by
                      show TabAt _ _ _ _ _ _
                      rw [HMO.out, hM, hnn, mnF_stay (by omega), ← hM]
                      exact HM.out
                    clear hnn hM
                    go_wp2
                    go_roundw
                    case rel => exact ⟨j + 1, by omega, by go_num, HM9, HB⟩
                    case measure => simp [intOf]; omega
              case neg =>
                have dx : (X == f) = false := by simpa using hXx
                rcases HTX.out with ⟨hm, x0, x1⟩ | ⟨hm, x0, x1⟩
                case inl =>
                  have hnn : faX f T X = 0 := by unfold faX; rw [if_neg hXx, if_neg (by omega)]
                  have xnd : decide ((0 : Int) ≤ X) = false := decide_eq_false (by omega)
                  clear hm x0 x1 HTX hXx
                  have HM9 : Hid (TabAt n0 bf W0 n (updI T p (fst2 T f X3 X4 (j + 1))) v0_1) := by
                    show TabAt _ _ _ _ _ _
                    rw [HMO.out, hM, hnn, mnF_stay (by omega), ← hM]
                    exact HM.out
                  clear hnn hM
                  go_wp2
                  go_roundw
                  case rel => exact ⟨j + 1, by omega, by go_num, HM9, HB⟩
                  case measure => simp [intOf]; omega
                case inr =>
                  obtain ⟨xk, hxk⟩ : ∃ k : Nat, X = (k : Int) := ⟨X.toNat, by omega⟩
                  subst hxk
                  have xkn : xk < n := by omega
                  have xkp : xk ≠ p := by omega
                  have xki : (xk : Int) < (n : Int) := by omega
                  have xk0 : (0 : Int) ≤ (xk : Int) := by omega
                  obtain ⟨Tk, hTk⟩ : ∃ z, T xk = z := ⟨_, rfl⟩
                  have hTb := HIN.out xk
                  rw [hTk] at hTb
                  have cx : v0_1.cell? ⟨bf, xk, none⟩ = some (.int .i64 Tk) := by have := HM.out.2.1 xk xkn; rw [updI_off _ _ xkp, hTk] at this; exact this
                  clear HTX hm x0 x1
                  by_cases t0 : 0 < Tk
                  case pos =>
                    have hnn : faX f T (xk : Int) = Tk + 1 := by unfold faX; rw [if_neg hXx, if_pos ⟨xk0, by rw [Int.toNat_natCast, hTk]; exact t0⟩, Int.toNat_natCast, hTk]
                    have tw : IntKind.i64.wrap (Tk + 1) = Tk + 1 := by rw [IntKind.wrap_i64]; omega
                    have tp : (0 : Int) < Tk + 1 := by omega
                    clear hTk hXx
                    by_cases m0 : M = 0
                    case pos =>
                      have d0 : (M == 0) = true := by simpa using m0
                      have HM9 : Hid (TabAt n0 bf W0 n (updI T p (fst2 T f X3 X4 (j + 1))) (v0_1.setCell ⟨bf, p, none⟩ (.int .i64 (Tk + 1)))) := by
                        show TabAt _ _ _ _ _ _
                        rw [HMO.out, hM, hnn, mnF_to (by omega) (by omega)]
                        exact HM.out.put lf hpn
                      have HB9 : Hid (Below w.heap.size w (v0_1.setCell ⟨bf, p, none⟩ (.int .i64 (Tk + 1)))) := HB.out.trans ((Beside.setCell bf v0_1 p (.int .i64 (Tk + 1))).below (by omega) HB.out.size)
                      have fp := HM.out.2.2.1 p
                      clear hnn hM
                      go_wp2
                      go_roundw
                      case rel => exact ⟨j + 1, by omega, by go_num, HM9, HB9⟩
                      case measure => simp [intOf]; omega
                    case neg =>
                      have d0 : (M == 0) = false := by simpa using m0
                      by_cases m1 : Tk + 1 < M
                      case pos =>
                        have d1 : decide (Tk + 1 < M) = true := decide_eq_true m1
                        have HM9 : Hid (TabAt n0 bf W0 n (updI T p (fst2 T f X3 X4 (j + 1))) (v0_1.setCell ⟨bf, p, none⟩ (.int .i64 (Tk + 1)))) := by
                          show TabAt _ _ _ _ _ _
                          rw [HMO.out, hM, hnn, mnF_to (by omega) (by omega)]
                          exact HM.out.put lf hpn
                        have HB9 : Hid (Below w.heap.size w (v0_1.setCell ⟨bf, p, none⟩ (.int .i64 (Tk + 1)))) := HB.out.trans ((Beside.setCell bf v0_1 p (.int .i64 (Tk + 1))).below (by omega) HB.out.size)
                        have fp := HM.out.2.2.1 p
                        clear hnn hM
                        go_wp2
                        go_roundw
                        case rel => exact ⟨j + 1, by omega, by go_num, HM9, HB9⟩
                        case measure => simp [intOf]; omega
                      case neg =>
                        have d1 : decide (Tk + 1 < M) = false := decide_eq_false m1
                        have HM9 : Hid (TabAt n0 bf W0 n (updI T p (fst2 T f X3 X4 (j + 1))) v0_1) := by
                          show TabAt _ _ _ _ _ _
                          rw [HMO.out, hM, hnn, mnF_stay (by omega), ← hM]
                          exact HM.out
                        clear hnn hM
                        go_wp2
                        go_roundw
                        case rel => exact ⟨j + 1, by omega, by go_num, HM9, HB⟩
                        case measure => simp [intOf]; omega
                  case neg =>
                    have hnn : faX f T (xk : Int) = 0 := by unfold faX; rw [if_neg hXx, if_neg (by rw [Int.toNat_natCast, hTk]; exact fun q => t0 q.2)]
                    clear hTk hXx
                    have HM9 : Hid (TabAt n0 bf W0 n (updI T p (fst2 T f X3 X4 (j + 1))) v0_1) := by
                      show TabAt _ _ _ _ _ _
                      rw [HMO.out, hM, hnn, mnF_stay (by omega), ← hM]
                      exact HM.out
                    clear hnn hM
                    go_wp2
                    go_roundw
                    case rel => exact ⟨j + 1, by omega, by go_num, HM9, HB⟩
                    case measure => simp [intOf]; omega
end Go.Proofs.Ytlkegoofpmgcjaa
