/-
What is proved: the specification's MinCuts: a list of lists, the cuts in their order.
-/
import Derived.Test.YtpaiajeigdifcaaCxJz
import Derived.Test.YtpaiajeigdifcaaCxTz
import Derived.Laws.OwnMore
namespace Go.Proofs.Ytpaiajeigdifcaa
set_option maxRecDepth 40000
open Go.ChangeShapes Go.WideShapes Go.ChangeAt Go.RowKit
set_option linter.unusedVariables false
set_option linter.unusedSimpArgs false

theorem MT.turn {base g cap : Nat} {w wr w2 : World} {k : Nat} {xs ys : List Value} {K : Nat → Nat} {V : Nat → Nat → Int} (h : MT base w wr (.slice (some ⟨g, 0, none⟩) k cap) k xs K V) (hb : Beside g wr w2) (hg : base ≤ g) (hz : base ≤ wr.heap.size) (ho : w2.ownsRow base 30 1 (.slice (some ⟨g, 0, none⟩) k cap) k ys) (π : Nat → Nat) (hπ : ∀ i, i < k → π i < k ∧ ys[i]? = xs[π i]?) (hi : ∀ i i', i < k → i' < k → π i = π i' → i = i') : MT base w w2 (.slice (some ⟨g, 0, none⟩) k cap) k ys (fun i => K (π i)) (fun i => V (π i)) := by
  obtain ⟨h0, h1, A, h2, h3⟩ := h
  refine ⟨h0.trans (hb.below hg hz), ho, fun i => A (π i), fun i hk => ?_, fun i i' q1 q2 y1 y2 e => hi i i' q1 q2 (h3 _ _ (hπ i q1).1 (hπ i' q2).1 y1 y2 e)⟩
  obtain ⟨p1, p2⟩ := hπ i hk
  obtain ⟨a, c, e, hq⟩ := h2 (π i) p1
  refine ⟨a, c, p2.trans e, fun z => ?_⟩
  obtain ⟨ea, n1, n2, n3, hc⟩ := hq z
  have ne : A (π i) ≠ g := fun q => n3 (by rw [q]; rfl)
  exact ⟨ea, n1, Nat.lt_of_lt_of_le n2 hb.2.2.2.1, n3, fun j hj => ⟨(hb.cell (p := ⟨A (π i), j, none⟩) n2 ne).trans (hc j hj).1, (hb.frozen (p := ⟨A (π i), j, none⟩) n2 ne).trans (hc j hj).2⟩⟩
theorem MT.congr {base : Nat} {w wr : World} {v : Value} {k : Nat} {xs : List Value} {K K' : Nat → Nat} {V V' : Nat → Nat → Int} (h : MT base w wr v k xs K V) (e1 : ∀ i, i < k → K i = K' i) (e2 : ∀ i, i < k → V i = V' i) : MT base w wr v k xs K' V' := by
  obtain ⟨h0, h1, A, h2, h3⟩ := h
  refine ⟨h0, h1, A, fun i hi => ?_, fun i i' q1 q2 y1 y2 e => h3 i i' q1 q2 (by rw [e1 i q1]; exact y1) (by rw [e1 i' q2]; exact y2) e⟩
  have := h2 i hi
  rw [e1 i hi, e2 i hi] at this
  exact this
theorem MT.rowAt {base g cap : Nat} {w wr : World} {k : Nat} {xs : List Value} {K : Nat → Nat} {V : Nat → Nat → Int} (h : MT base w wr (.slice (some ⟨g, 0, none⟩) k cap) k xs K V) {w2 : World} (hb : Beside g wr w2) {i : Nat} (hi : i < k) : ∃ a c, xs[i]? = some (.slice a (K i) c) ∧ RowI w2 a (K i) (V i) := by
  obtain ⟨h0, h1, A, h2, h3⟩ := h
  obtain ⟨a, c, e, hq⟩ := h2 i hi
  refine ⟨a, c, e, fun j hj => ?_⟩
  obtain ⟨ea, n1, n2, n3, hc⟩ := hq (by omega)
  have ne : A i ≠ g := fun q => n3 (by rw [q]; rfl)
  exact ⟨A i, 0, ea, Nat.lt_of_lt_of_le n2 hb.2.2.2.1, by rw [Nat.zero_add]; exact (hb.cell (p := ⟨A i, j, none⟩) n2 ne).trans (hc j hj).1⟩
/-- What lies in the list while the new one goes down to its place a. -/
def ShfAt (base g cap M : Nat) (xs : List Value) (a : Nat) (w wr : World) : Prop := Beside g w wr ∧ ∃ ys, wr.ownsRow base 30 1 (.slice (some ⟨g, 0, none⟩) M cap) M ys ∧ ∀ i, i < M → ys[i]? = if i ≤ a then xs[i]? else xs[i - 1]?
theorem ShfAt.start {base g cap M a : Nat} {xs : List Value} {w : World} (h : w.ownsRow base 30 1 (.slice (some ⟨g, 0, none⟩) M cap) M xs) (ha : M = a + 1) : ShfAt base g cap M xs a w w := ⟨Beside.of (Below.refl _ _), xs, h, fun i hi => by rw [if_pos (by omega)]⟩
theorem ShfAt.drewN {base g cap M a : Nat} {xs : List Value} {w wr : World} (h : ShfAt base g cap M xs a w wr) (q : Nat) : ShfAt base g cap M xs a w (wr.drewN q) := ⟨h.1.trans (Beside.of (below_drewN wr q)), h.2.choose, own_drewN h.2.choose_spec.1 q, h.2.choose_spec.2⟩
theorem ShfAt.cellAt {base g cap M a : Nat} {xs : List Value} {w wr : World} (h : ShfAt base g cap M xs a w wr) {i : Nat} (hi : i < M) (ha : i ≤ a) : wr.cell? ⟨g, i, none⟩ = xs[i]? := by
  obtain ⟨_, ys, h1, h2⟩ := h
  rw [h1.cellAt i (by omega), h2 i hi, if_pos ha]
theorem ShfAt.down {base g cap M a : Nat} {xs : List Value} {w wr : World} {u : Value} (h : ShfAt base g cap M xs (a + 1) w wr) (ha : a + 1 < M) (hu : xs[a]? = some u) : ShfAt base g cap M xs a w (wr.setCell ⟨g, a + 1, none⟩ u) := by
  obtain ⟨h0, ys, h1, h2⟩ := h
  have hl : ys.length = M := by have := h1.1; omega
  refine ⟨h0.trans (Beside.setCell g wr _ _), _, (h1.stored (a + 1) u).1, fun i hi => ?_⟩
  rw [List.getElem?_set]
  by_cases e : a + 1 = i
  · subst e
    rw [if_pos rfl, if_pos (by omega), if_neg (by omega)]
    exact hu.symm
  · rw [if_neg e, h2 i hi]
    by_cases q : i ≤ a
    · rw [if_pos q, if_pos (by omega)]
    · rw [if_neg q, if_neg (by omega)]
theorem ShfAt.put {base g cap m a : Nat} {xs : List Value} {w w0 wr : World} {K : Nat → Nat} {V : Nat → Nat → Int} {W W' : Nat → Int} {x : Int} {u : Value} (h : ShfAt base g cap (m + 1) xs a w wr) (ha : a ≤ m) (hM : MT base w0 w (.slice (some ⟨g, 0, none⟩) (m + 1) cap) (m + 1) xs (kkW W') (vvW W')) (hg : base ≤ g) (hz : base ≤ w.heap.size) (hu : xs[m]? = some u) (e1 : ∀ i, i < m → W' i = W i) (e2 : W' m = x) : MT base w0 (wr.setCell ⟨g, a, none⟩ u) (.slice (some ⟨g, 0, none⟩) (m + 1) cap) (m + 1) ((h.2.choose).set a u) (kkW (insF W a x)) (vvW (insF W a x)) := by
  have h1 := h.2.choose_spec.1
  have h2 := h.2.choose_spec.2
  have hl : (h.2.choose).length = m + 1 := by have := h1.1; omega
  have key : ∀ i, i < m + 1 → insF W a x i = W' (if i < a then i else if i = a then m else i - 1) := by
    intro i hi
    unfold insF
    by_cases q1 : i < a
    · rw [if_pos q1, if_pos q1, e1 i (by omega)]
    · rw [if_neg q1, if_neg q1]
      by_cases q2 : i = a
      · rw [if_pos q2, if_pos q2, e2]
      · rw [if_neg q2, if_neg q2, e1 (i - 1) (by omega)]
  refine (hM.turn (h.1.trans (Beside.setCell g wr _ _)) hg hz (h1.stored a u).1 (fun i => if i < a then i else if i = a then m else i - 1) (fun i hi => ⟨?_, ?_⟩) (fun i i' q1 q2 e => ?_)).congr (fun i hi => ?_) (fun i hi => ?_)
  · show (if i < a then i else if i = a then m else i - 1) < m + 1
    split
    · omega
    · split <;> omega
  · rw [List.getElem?_set]
    by_cases q : a = i
    · subst q
      show _ = xs[if a < a then a else if a = a then m else a - 1]?
      rw [if_pos rfl, if_pos (by omega), if_neg (by omega), if_pos rfl]
      exact hu.symm
    · show _ = xs[if i < a then i else if i = a then m else i - 1]?
      rw [if_neg q, h2 i hi]
      by_cases q1 : i < a
      · rw [if_pos (by omega), if_pos q1]
      · rw [if_neg (by omega), if_neg q1, if_neg (by omega)]
  · have e : (if i < a then i else if i = a then m else i - 1) = (if i' < a then i' else if i' = a then m else i' - 1) := e
    split at e
    · split at e
      · exact e
      · split at e <;> omega
    · split at e
      · split at e
        · omega
        · split at e <;> omega
      · split at e
        · omega
        · split at e <;> omega
  · unfold kkW; rw [key i hi]
  · unfold vvW; rw [key i hi]
def MtW (base : Nat) (w wr : World) (v : Value) (m : Nat) (W : Nat → Int) : Prop := ∃ xs, MT base w wr v m xs (kkW W) (vvW W)
theorem MtW.below {base : Nat} {w wr w2 : World} {v : Value} {m : Nat} {W : Nat → Int} (h : MtW base w wr v m W) (hb : Below wr.heap.size wr w2) (hz : base ≤ wr.heap.size) : MtW base w w2 v m W := by
  obtain ⟨xs, h⟩ := h
  exact ⟨xs, h.below hb hz⟩
theorem MtW.len {base : Nat} {w wr : World} {v : Value} {m : Nat} {W : Nat → Int} (h : MtW base w wr v m W) : ∃ s c, v = .slice s m c := by
  obtain ⟨xs, h⟩ := h
  obtain ⟨s, c, e, _⟩ := h.done
  exact ⟨s, c, e⟩
set_option maxRecDepth 20000 in
set_option maxHeartbeats 8000000 in
theorem specMin_any (x : Int) (s : Option Addr) (n c : Nat) (X : Nat → Int) (K : Nat → Nat) (V : Nat → Nat → Int) (w : World) (HR : Hid (RowGat w s n X K V)) :
    Calls Try.prog 17 #[.agg #[.int .i64 x, .slice s n c]] w fun e w' => MinPost x n X K V w e w' := by
  go_enter Try.func17, Try.ntmps17
  go_upto_region 1 with fail
  obtain ⟨wd, hwd⟩ : ∃ wd, wd = w.alloc (.cells #[.int .i64 x, .slice s n c] 26) := ⟨_, rfl⟩
  rw [← hwd]
  have HB0 : Hid (Below w.heap.size w wd) := by rw [hwd]; exact ((by repeat (first | with_reducible exact Below.refl _ _ | with_reducible refine Below.setCell ?_ (by first | omega | (simp; done) | (simp; omega)) _ | with_reducible refine bDrewN ?_ _ | with_reducible refine Below.drew ?_ | with_reducible refine Below.alloc ?_ (by first | omega | (simp; done) | (simp; omega)) _)) : Below w.heap.size w (w.alloc (.cells #[.int .i64 x, .slice s n c] 26)))
  have p0 : wd.cell? ⟨w.heap.size, 0, none⟩ = some (.int .i64 x) := by rw [hwd]; simp [go_sem]
  have p1 : wd.cell? ⟨w.heap.size, 1, none⟩ = some (.slice s n c) := by rw [hwd]; simp [go_sem]
  have zd : w.heap.size < wd.heap.size := by rw [hwd]; simp
  clear hwd
  have HM0 : Hid (MT wd.heap.size wd (wd.alloc (.cells #[] 30)) (.slice (some ⟨wd.heap.size, 0, none⟩) 0 0) 0 [] (kkW (fun _ => 0)) (vvW (fun _ => 0))) := MT.lit wd (Nat.le_refl _)
  have HP : Hid (wd.cell? ⟨w.heap.size, 0, none⟩ = some (.int .i64 x) ∧ wd.cell? ⟨w.heap.size, 1, none⟩ = some (.slice s n c)) := ⟨p0, p1⟩
  clear p0 p1
  go_upto_region 2 with fail
  obtain ⟨we, hwe⟩ : ∃ we, we = wd.alloc (.cells #[] 30) := ⟨_, rfl⟩
  rw [← hwe] at HM0 ⊢
  have Be : Below wd.heap.size wd we := HM0.out.1
  have q0 := (Be.cell (p := ⟨w.heap.size, 0, none⟩) zd).trans HP.out.1
  have q1 := (Be.cell (p := ⟨w.heap.size, 1, none⟩) zd).trans HP.out.2
  have ze : w.heap.size < we.heap.size := Nat.lt_of_lt_of_le zd Be.size
  have HBe : Hid (Below w.heap.size w we) := HB0.out.trans (Be.mono HB0.out.size)
  clear hwe
  go_wp2_with fail
  refine (specTreeOk_any x s n c X K V _ (HR.out.below HBe.out)).mono ?_
  rintro e w1 ⟨rfl, h1⟩
  have HB1 : Hid (Below w.heap.size w w1) := HBe.out.trans (h1.mono HBe.out.size)
  have HM1 : Hid (MT wd.heap.size wd w1 (.slice (some ⟨wd.heap.size, 0, none⟩) 0 0) 0 [] (kkW (fun _ => 0)) (vvW (fun _ => 0))) := HM0.out.below h1 Be.size
  clear h1 q0 q1 HM0 Be HBe ze
  cases h0 : treeB x n X K V
  · go_wp2
    go_ret
    exact min_no h0 HB1.out
  have HT : Hid (treeB x n X K V = true) := h0
  clear h0
  obtain ⟨⟨x0, x1⟩, -, -⟩ := tree_yes HT.out
  obtain ⟨y, rfl⟩ : ∃ y : Nat, x = (y : Int) := ⟨x.toNat, by omega⟩
  obtain ⟨N, hN⟩ : ∃ N, 2 ^ y = N := ⟨_, rfl⟩
  have hw : wrap64 ((2 : Int) ^ y) = (N : Int) := by rw [wpow y (by omega), hN]
  have N1 : N ≤ 1024 := by rw [← hN]; exact (Nat.pow_le_pow_right (by decide) (by omega) : 2 ^ y ≤ 2 ^ 10)
  have HN : Hid (2 ^ y = N) := hN
  have HQ : Hid (∀ j, j < N → popS j < y + 1) := fun j hj => Nat.lt_succ_of_le (pop_le (by rw [HN.out]; exact hj) (by omega))
  have sto := store_slT
  clear hN
  go_wp2_with fail
  go_loopw [3, 4] (fun v i wr => ∃ (z m : Nat) (W : Nat → Int), z ≤ y + 1 ∧ i = .int .i64 z ∧ Hid (MtW wd.heap.size wd wr v m W) ∧ Hid (CutZ (mnB y n X K V) N z 0 m m W)) (fun _ i _ => y + 1 - (intOf i).toNat)
  case atStart => exact ⟨0, 0, fun _ => 0, Nat.zero_le _, rfl, ⟨[], HM1.out⟩, cutZ_zero _ _ _⟩
  case round =>
    clear HM1
    obtain ⟨z, m, W, hz, rfl, HM, HZ⟩ := hrel
    have hBr : Below wd.heap.size wd wr := HM.out.choose_spec.1
    have zr := hBr.size
    have q0 := (hBr.cell (p := ⟨w.heap.size, 0, none⟩) zd).trans HP.out.1
    have zp : w.heap.size < wr.heap.size := by omega
    clear hBr
    obtain ⟨sv, cv, rfl⟩ := HM.out.len
    have mN : m ≤ N := cutZ_le HZ.out
    by_cases h1 : z ≤ y
    · have k1 : (z : Int) ≤ (y : Int) := by omega
      go_wp2_with fail
      clear q0 zp zr
      go_loopw [3, 6] (fun v i wr => ∃ (k M : Nat) (W : Nat → Int), k ≤ N ∧ i = .int .i64 k ∧ Hid (MtW wd.heap.size wd wr v M W) ∧ Hid (CutZ (mnB y n X K V) N z k m M W)) (fun _ i _ => N - (intOf i).toNat)
      case atStart => exact ⟨0, m, W, Nat.zero_le _, rfl, HM, HZ⟩
      case round =>
        clear HM HZ
        obtain ⟨k, M, W, hk, rfl, HM, HZ⟩ := hrel
        have hBr : Below wd.heap.size wd wr := HM.out.choose_spec.1
        have zr := hBr.size
        have q0 := (hBr.cell (p := ⟨w.heap.size, 0, none⟩) zd).trans HP.out.1
        have q1 := (hBr.cell (p := ⟨w.heap.size, 1, none⟩) zd).trans HP.out.2
        have zp : w.heap.size < wr.heap.size := by omega
        have HBw : Hid (Below w.heap.size w wr) := HB0.out.trans (hBr.mono HB0.out.size)
        clear hBr
        obtain ⟨sv, cv, rfl⟩ := HM.out.len
        have MN : M ≤ N := cutZ_le HZ.out
        have mM : m ≤ M := HZ.out.1
        by_cases h2 : k < N
        · have k2 : (k : Int) < (N : Int) := by omega
          have HKX : Hid (k < 2 ^ y) := by show k < 2 ^ y; rw [HN.out]; exact h2
          go_wp2_with fail
          refine (l23Set_any y k s n c _ (by omega) (by omega) HKX).mono ?_
          rintro e w2 ⟨s2, c2, rfl, O2, h3⟩
          replace q0 := (h3.cell (p := ⟨w.heap.size, 0, none⟩) zp).trans q0
          replace q1 := (h3.cell (p := ⟨w.heap.size, 1, none⟩) zp).trans q1
          replace zp := Nat.lt_of_lt_of_le zp h3.size
          have HO2 : Hid (OwnI wr.heap.size w2 s2 (popS k) (nthI (lsT k 10))) := O2
          have H3 : Hid (Below wr.heap.size wr w2) := h3
          have HB2 : Hid (Below w.heap.size w w2) := HBw.out.trans (h3.mono HBw.out.size)
          have HP10 : Hid (popS k ≤ 10) := Nat.le_trans (pop_le HKX.out (by omega)) (by omega)
          obtain ⟨l, hl⟩ : ∃ l, popS k = l := ⟨_, rfl⟩
          have HLn : Hid (popS k = l) := hl
          rw [hl] at HO2 HP10 ⊢
          have l10 : l ≤ 10 := HP10.out
          clear h3 O2 hl HP10
          by_cases h5 : l = z
          case neg =>
            have HX : Hid (CutZ (mnB y n X K V) N z (k + 1) m M W) := cutZ_skip HZ.out (Or.inl (by rw [HLn.out]; exact h5))
            have HM2 : Hid (MtW wd.heap.size wd w2 (.slice sv M cv) M W) := HM.out.below H3.out zr
            have h6 : ((l : Int) != (z : Int)) = true := by simp; omega
            go_wp2
            go_roundw
            case rel => exact ⟨k + 1, M, W, by omega, by go_num, HM2, HX⟩
            case measure => first | (simp [intOf]; done) | (simp [intOf]; omega)
          subst h5
          have h6 : ((l : Int) != (l : Int)) = false := by simp
          go_wp2_with fail
          refine (l23Minimal_any k y s n c X K V _ HT HKX (HR.out.below HB2.out)).mono ?_
          rintro e w3 ⟨rfl, h3⟩
          have H33 : Hid (Below wr.heap.size wr w3) := H3.out.trans (h3.mono H3.out.size)
          have HO3 : Hid (OwnI wr.heap.size w3 s2 l (nthI (lsT k 10))) := HO2.out.below h3
          clear h3 q0 q1 HO2 zp
          cases q2 : mnB y n X K V k
          · have HX : Hid (CutZ (mnB y n X K V) N l (k + 1) m M W) := cutZ_skip HZ.out (Or.inr q2)
            have HM2 : Hid (MtW wd.heap.size wd w3 (.slice sv M cv) M W) := HM.out.below H33.out zr
            go_wp2
            go_roundw
            case rel => exact ⟨k + 1, M, W, by omega, by go_num, HM2, HX⟩
            case measure => first | (simp [intOf]; done) | (simp [intOf]; omega)
          · obtain ⟨W', hW'⟩ : ∃ W' : Nat → Int, W' = fun i => if i < M then W i else (k : Int) := ⟨_, rfl⟩
            have HW1 : Hid (∀ i, i < M → W' i = W i) := fun i hi => by rw [hW']; exact if_pos hi
            have HW2 : Hid (W' M = (k : Int)) := by rw [hW']; exact if_neg (by omega)
            obtain ⟨xs, hxs⟩ := HM.out
            have HMX : Hid (MT wd.heap.size wd wr (.slice sv M cv) M xs (kkW W') (vvW W')) := hxs.congr (fun i hi => by unfold kkW; rw [HW1.out i hi]) (fun i hi => by unfold vvW; rw [HW1.out i hi])
            have HMY : Hid (w3.ownsRow wd.heap.size 30 1 (.slice sv M cv) M xs) := (HMX.out.below H33.out zr).2.1
            have HKM : Hid (kkW W' M = l) := by show _ = _; rw [kk_at HW2.out]; exact HLn.out
            have HVM : Hid (vvW W' M = nthI (lsT k 10)) := vv_at HW2.out
            have z3 : wd.heap.size ≤ w3.heap.size := Nat.le_trans zr H33.out.size
            have HXL : Hid (xs.length = M) := by have := hxs.2.1.1; show xs.length = M; omega
            have HP2 : Hid (mnB y n X K V k = true) := q2
            clear hW' hxs HM
            go_upto_region 15 with (at_builtin; refine list_slh (x := .slice s2 l c2) rfl wd.heap.size (.slice sv M cv) M xs (.tmp 45) (.tmp 47) (by rfl) (by rfl) (by rfl) (by rfl) HMY.out (by omega) z3 ?_; intro g' cap' w6 hown6 hgrow6 hlt6 hat6)
            have HM6 : Hid (MT wd.heap.size wd w6 (.slice (some ⟨g', 0, none⟩) (M + 1) cap') (M + 1) (xs ++ [.slice s2 l c2]) (kkW W') (vvW W')) := by
              have t := MT.on (c := c2) (s := s2) (w1 := w3) (w2 := w6) (g := g') (cap := cap') HMX.out H33.out zr (by rw [HKM.out, HVM.out]; exact HO3.out) (by rw [HKM.out]; exact hown6) hgrow6 hat6
              rw [HKM.out] at t
              exact t
            have HW6 : Hid (w6.ownsRow wd.heap.size 30 1 (.slice (some ⟨g', 0, none⟩) (M + 1) cap') (M + 1) (xs ++ [.slice s2 l c2])) := hown6
            have Hg : Hid (wd.heap.size ≤ g' ∧ g' < w6.heap.size) := ⟨(hown6.lt g' rfl).1, hlt6⟩
            have HXM : Hid ((xs ++ [.slice s2 l c2])[M]? = some (.slice s2 l c2)) := by show _ = _; rw [List.getElem?_append_right (by rw [HXL.out]; exact Nat.le_refl _), HXL.out]; simp
            have z6 : wd.heap.size ≤ w6.heap.size := HM6.out.1.size
            clear hown6 hgrow6 hlt6 hat6 HMX HMY HO3
            obtain ⟨Xs, hXs⟩ : ∃ Xs, Xs = xs ++ [Value.slice s2 l c2] := ⟨_, rfl⟩
            rw [← hXs] at HM6 HW6 HXM
            clear hXs
            go_loopw [8] (fun i ws => ∃ a : Nat, m ≤ a ∧ a ≤ M ∧ i = .int .i64 a ∧ Hid (ShfAt wd.heap.size g' cap' (M + 1) Xs a w6 ws) ∧ Hid (∀ i, a ≤ i → i < M → ltF (k : Int) (W i))) (fun i _ => (intOf i).toNat)
            case atStart => exact ⟨M, mM, Nat.le_refl _, by first | rfl | go_num, ShfAt.start HW6.out rfl, fun i h1 h2 => by omega⟩
            case round =>
              rename World => ws
              obtain ⟨a, a1, a2, rfl, HS, HL⟩ := hrel
              have zg : g' < ws.heap.size := Nat.lt_of_lt_of_le Hg.out.2 HS.out.1.2.2.2.1
              have HEnd : Hid (∀ wz, ShfAt wd.heap.size g' cap' (M + 1) Xs a w6 wz → (m < a → ¬ ltF (k : Int) (W (a - 1))) → MtW wd.heap.size wd (wz.setCell ⟨g', a, none⟩ (.slice s2 l c2)) (.slice (some ⟨g', 0, none⟩) (M + 1) cap') (M + 1) (insF W a (k : Int)) ∧ CutZ (mnB y n X K V) N l (k + 1) m (M + 1) (insF W a (k : Int))) := fun wz hs hh => ⟨⟨_, ShfAt.put (K := kkW W') (V := vvW W') hs a2 HM6.out Hg.out.1 z6 HXM.out HW1.out HW2.out⟩, cutZ_ins HZ.out h2 HP2.out HLn.out a1 a2 HL.out hh⟩
              have ca : ∃ v, ws.cell? ⟨g', a, none⟩ = some v := by
                obtain ⟨_, ys, y1, y2⟩ := HS.out
                have yl : ys.length = M + 1 := by have := y1.1; omega
                exact ⟨ys[a]'(by omega), by rw [y1.cellAt a (by omega)]; exact List.getElem?_eq_getElem (by omega)⟩
              have fa : ws.frozen? ⟨g', a, none⟩ = false := by
                obtain ⟨_, ys, y1, y2⟩ := HS.out
                exact y1.frozenAt a
              have za : (a : Int) < ((M + 1 : Nat) : Int) := by omega
              by_cases h7 : m < a
              · obtain ⟨t, rfl⟩ : ∃ t, a = t + 1 := ⟨a - 1, by omega⟩
                have t1 : (m : Int) < ((t + 1 : Nat) : Int) := by omega
                obtain ⟨j, j1, j2, j3⟩ : ∃ j : Nat, j < N ∧ W t = (j : Int) ∧ popS j = l := by
                  obtain ⟨j, j1, j2, _, j4, _⟩ := HZ.out.2.2.2.1 t (by omega) (by omega)
                  exact ⟨j, j1, j2, j4⟩
                obtain ⟨at', ct, xt, Rt⟩ := HM6.out.rowAt HS.out.1 (show t < M + 1 by omega)
                have HKT : Hid (kkW W' t = l) := by show _ = _; rw [kk_at (show W' t = (j : Int) by rw [HW1.out t (by omega)]; exact j2)]; exact j3
                have HVT : Hid (vvW W' t = nthI (lsT j 10)) := vv_at (show W' t = (j : Int) by rw [HW1.out t (by omega)]; exact j2)
                rw [HKT.out, HVT.out] at Rt
                rw [HKT.out] at xt
                have HRT : Hid (RowI ws at' l (nthI (lsT j 10))) := Rt
                have HXT : Hid (Xs[t]? = some (.slice at' l ct)) := xt
                have ct0 : ws.cell? ⟨g', t, none⟩ = some (.slice at' l ct) := (HS.out.cellAt (show t < M + 1 by omega) (by omega)).trans xt
                have HRS : Hid (RowI ws s2 l (nthI (lsT k 10))) := by
                  obtain ⟨a0, c0, x0', R0⟩ := HM6.out.rowAt HS.out.1 (show M < M + 1 by omega)
                  rw [HKM.out, HVM.out] at R0
                  rw [HKM.out] at x0'
                  have := HXM.out.symm.trans x0'
                  cases this
                  exact R0
                have HLT : Hid (lesL (nthI (lsT k 10)) (nthI (lsT j 10)) l ↔ ltF (k : Int) (W t)) := by
                  show _ ↔ _
                  rw [j2]
                  have := les_is (b := k) (c := j) (by omega) (by omega) (by rw [HLn.out, j3])
                  rw [HLn.out] at this
                  exact this
                have tm : IntKind.i64.wrap (((t + 1 : Nat) : Int) - 1) = (t : Int) := by rw [IntKind.wrap_i64]; omega
                have ts : ((t + 1 : Nat) : Int) - 1 = (t : Int) := by omega
                have tl : (t : Int) < ((M + 1 : Nat) : Int) := by omega
                clear Rt xt j2 j3
                obtain ⟨va, ca⟩ := ca
                go_wp2_with fail
                refine (l23Less_any s2 at' l c2 ct (nthI (lsT k 10)) (nthI (lsT j 10)) _ l10 HRS HRT).mono ?_
                rintro e w8 ⟨r, rfl, r1, q8, rfl⟩
                have HR8 : Hid (r = true ↔ ltF (k : Int) (W t)) := r1.trans HLT.out
                clear r1
                cases r
                · have HFF := HEnd.out (ws.drewN q8) (HS.out.drewN q8) (fun _ => fun h => by have := HR8.out.2 h; cases this)
                  have HF : Hid (MtW wd.heap.size wd ((ws.drewN q8).setCell ⟨g', t + 1, none⟩ (.slice s2 l c2)) (.slice (some ⟨g', 0, none⟩) (M + 1) cap') (M + 1) (insF W (t + 1) (k : Int)) ∧ CutZ (mnB y n X K V) N l (k + 1) m (M + 1) (insF W (t + 1) (k : Int))) := HFF
                  clear HFF
                  go_wp2
                  go_roundw
                  case rel => exact ⟨k + 1, M + 1, _, by omega, by go_num, HF.out.1, HF.out.2⟩
                  case measure => first | (simp [intOf]; done) | (simp [intOf]; omega)
                · have HS2 : Hid (ShfAt wd.heap.size g' cap' (M + 1) Xs t w6 ((ws.drewN q8).setCell ⟨g', t + 1, none⟩ (.slice at' l ct))) := ShfAt.down (HS.out.drewN q8) (by omega) HXT.out
                  have HL2 : Hid (∀ i, t ≤ i → i < M → ltF (k : Int) (W i)) := fun i h1 h2 => by
                    by_cases e : i = t
                    · subst e; exact HR8.out.1 rfl
                    · exact HL.out i (by omega) h2
                  go_wp2
                  go_roundw
                  case rel => exact ⟨t, by omega, by omega, by go_num, HS2, HL2⟩
                  case measure => first | (simp [intOf]; done) | (simp [intOf]; omega)
              · obtain rfl : a = m := by omega
                have HFF := HEnd.out ws HS.out (fun h => absurd h h7)
                have HF : Hid (MtW wd.heap.size wd (ws.setCell ⟨g', a, none⟩ (.slice s2 l c2)) (.slice (some ⟨g', 0, none⟩) (M + 1) cap') (M + 1) (insF W a (k : Int)) ∧ CutZ (mnB y n X K V) N l (k + 1) a (M + 1) (insF W a (k : Int))) := HFF
                clear HFF
                obtain ⟨va, ca⟩ := ca
                go_wp2
                go_roundw
                case rel => exact ⟨k + 1, M + 1, _, by omega, by go_num, HF.out.1, HF.out.2⟩
                case measure => first | (simp [intOf]; done) | (simp [intOf]; omega)
        · obtain rfl : k = N := by omega
          have HX : Hid (CutZ (mnB y n X K V) k (z + 1) 0 M M W) := cutZ_next HZ.out
          go_wp2
          go_roundw
          case rel => exact ⟨z + 1, M, W, by omega, by go_num, HM, HX⟩
          case measure => first | (simp [intOf]; done) | (simp [intOf]; omega)
    · obtain rfl : z = y + 1 := by omega
      have HG : Hid (CutG (mnB y n X K V) N m W) := cutZ_end HZ.out HQ.out
      have k3 : (y : Int) < ((y + 1 : Nat) : Int) := by omega
      obtain ⟨xs, hxs⟩ := HM.out
      obtain ⟨s', c', he, HOw⟩ := hxs.done
      cases he
      have HP2 : Hid (OwnLL (fun q => wd.heap.size ≤ q ∧ q < wr.heap.size) wr sv m (kkW W) (vvW W) ∧ Below w.heap.size w wr) := ⟨HOw, HB0.out.trans (hxs.1.mono HB0.out.size)⟩
      have HCR : Hid (CutR (treeB (y : Int) n X K V) (mnB (y : Int).toNat n X K V) (2 ^ (y : Int).toNat) m W) := ⟨fun _ => (by rw [Int.toNat_natCast, HN.out]; exact HG.out), fun q => (by rw [HT.out] at q; cases q)⟩
      clear hxs HOw HM
      go_wp2
      go_ret
      exact ⟨sv, cv, m, W, _, rfl, fun q hq => ⟨Nat.le_trans HB0.out.size hq.1, hq.2⟩, HP2.out.1, HCR.out, HP2.out.2⟩
end Go.Proofs.Ytpaiajeigdifcaa
