/-
What is proved: the program's cuts: the sets that fail and are least, in their order, and their lists.
-/
import Derived.Test.YtpaiajeigdifcaaCxNz
import Derived.Test.YtpaiajeigdifcaaChI
import Derived.Test.YtpaiajeigdifcaaQcB
import Derived.Laws.BitsAllLaws
import Derived.Deep.DeepCutAuto
namespace Go.Proofs.Ytpaiajeigdifcaa
set_option maxRecDepth 40000
open Go.ChangeShapes Go.WideShapes Go.ChangeAt Go.RowKit
set_option linter.unusedVariables false
set_option linter.unusedSimpArgs false

/-- Does it fail by b, and by none that has one less? -/
def lsB (x n : Nat) (X : Nat → Int) (K : Nat → Nat) (V : Nat → Nat → Int) (b : Nat) : Bool := decide (∀ i, i < x → b.testBit i = true → faB (b - 2 ^ i) x n X K V = false)
def mnB (x n : Nat) (X : Nat → Int) (K : Nat → Nat) (V : Nat → Nat → Int) (b : Nat) : Bool := faB b x n X K V && lsB x n X K V b
theorem bit_le {f i : Nat} (h : f.testBit i = true) : 2 ^ i ≤ f := by
  rcases Nat.lt_or_ge f (2 ^ i) with q | q
  · rw [Nat.testBit_lt_two_pow q] at h; cases h
  · exact q
theorem mn_half {x n : Nat} {X : Nat → Int} {K : Nat → Nat} {V : Nat → Nat → Int} (hx : 0 < x) {a b : Nat} (ha : mnB x n X K V a = true) (hb : mnB x n X K V b = true) (h : a / 2 = b / 2) (hab : a < b) : False := by
  unfold mnB at ha hb
  rw [Bool.and_eq_true] at ha hb
  have h1 : b = a + 1 := by omega
  have h2 : b.testBit 0 = true := by rw [Nat.testBit_zero]; simp; omega
  have := of_decide_eq_true hb.2 0 hx h2
  rw [show b - 2 ^ 0 = a by rw [h1]; simp, ha.1] at this
  cases this
theorem cutA_many {x n : Nat} {X : Nat → Int} {K : Nat → Nat} {V : Nat → Nat → Int} (hx : 0 < x) (hx1 : x ≤ 10) {m : Nat} {U : Nat → Int} (h : CutA (mnB x n X K V) (2 ^ x) m U) : m ≤ 512 := by
  have hN : 2 ^ x ≤ 2 ^ 10 := Nat.pow_le_pow_right (by decide) hx1
  refine pigeon 512 m (fun i => (U i).toNat / 2) (fun i hi => ?_) (fun i j hi hj => ?_)
  · obtain ⟨a, a1, a2, _⟩ := h.2.2.1 i hi
    show (U i).toNat / 2 < 512
    omega
  · obtain ⟨a, a1, a2, a3⟩ := h.2.2.1 i (by omega)
    obtain ⟨b, b1, b2, b3⟩ := h.2.2.1 j hj
    have l1 := h.2.1 i j (Nat.zero_le _) hi hj
    intro e
    have e : (U i).toNat / 2 = (U j).toNat / 2 := e
    have l2 : U i < U j := l1
    rw [a2, b2] at e l2
    exact mn_half hx a3 b3 (by simpa using e) (by omega)
theorem sub_all : ((List.range 1024).all fun f => (List.range 10).all fun n => !f.testBit n || (f &&& (4294967295 - 2 ^ n)) == f - 2 ^ n) = true := by kernel_rfl
theorem sub_u32 {f n : Nat} (hf : f < 1024) (hn : n < 10) (h : f.testBit n = true) : bits .andNot .u32 (f : Int) (2 ^ n % 4294967296) = ((f - 2 ^ n : Nat) : Int) := by
  have h1 := List.all_eq_true.1 (List.all_eq_true.1 sub_all f (List.mem_range.2 hf)) n (List.mem_range.2 hn)
  rw [h] at h1
  have h2 : f &&& (4294967295 - 2 ^ n) = f - 2 ^ n := by simpa using h1
  have hp : 2 ^ n ≤ 2 ^ 10 := Nat.pow_le_pow_right (by decide) (by omega)
  rw [pow_cast, show ((2 ^ n : Nat) : Int) % 4294967296 = ((2 ^ n : Nat) : Int) by have : ((2 ^ n : Nat) : Int) ≤ ((2 ^ 10 : Nat) : Int) := Int.ofNat_le.2 hp; have : (0 : Int) ≤ ((2 ^ n : Nat) : Int) := Int.natCast_nonneg _; simp at *; omega, u32_andNot_nat f (2 ^ n) (by omega) (by omega), h2]
set_option maxHeartbeats 400000 in
theorem without_any (f n : Nat) (w : World) (hf : f < 1024) (hn : n < 10) (h : Hid (f.testBit n = true)) : Calls Try.prog 92 #[.int .u32 (f : Int), .int .i64 (n : Int)] w fun e w' => e = .returned (.int .u32 ((f - 2 ^ n : Nat) : Int)) ∧ w' = w := by
  have hb := sub_u32 hf hn h.out
  have n1 : (n : Int) < 32 := by omega
  go_enter Try.func92, Try.ntmps92
  go_wp2
  go_ret
  exact ⟨rfl, rfl⟩
theorem ls_mem {f : Nat} {y : Int} : ∀ {k : Nat}, y ∈ lsT f k ↔ ∃ i : Nat, i < k ∧ y = (i : Int) ∧ f.testBit i = true := by
  intro k
  induction k with
  | zero => exact ⟨fun h => (by cases h), fun ⟨i, h, _⟩ => (by omega)⟩
  | succ k ih =>
    unfold lsT
    split
    · rename_i q
      rw [List.mem_append, ih]
      constructor
      · rintro (⟨i, h1, h2⟩ | h)
        · exact ⟨i, by omega, h2⟩
        · exact ⟨k, by omega, by simpa using h, q⟩
      · rintro ⟨i, h1, h2, h3⟩
        by_cases e : i = k
        · subst e; right; simp [h2]
        · left; exact ⟨i, by omega, h2, h3⟩
    · rename_i q
      rw [ih]
      constructor
      · rintro ⟨i, h1, h2⟩; exact ⟨i, by omega, h2⟩
      · rintro ⟨i, h1, h2, h3⟩
        exact ⟨i, by rcases Nat.lt_or_ge i k with z | z
                     · exact z
                     · obtain rfl : i = k := by omega
                       exact absurd h3 q, h2, h3⟩
theorem ls_at {f x j : Nat} (hf : f < 2 ^ x) (hx : x ≤ 10) (hj : j < popS f) : ∃ i : Nat, i < x ∧ nthI (lsT f 10) j = (i : Int) ∧ f.testBit i = true := by
  have h1 : 2 ^ x ≤ 2 ^ 10 := Nat.pow_le_pow_right (by decide) hx
  rw [(rev_at (by omega)).2, ls_all hf hx] at hj
  rw [ls_all hf hx]
  exact ls_mem.1 (nth_mem hj)
theorem ls_hit {f i : Nat} (hf : f < 1024) (hi : i < 10) (h : f.testBit i = true) : ∃ j, j < popS f ∧ nthI (lsT f 10) j = (i : Int) := by
  obtain ⟨j, hj, e⟩ := List.mem_iff_getElem.1 (ls_mem.2 ⟨i, hi, rfl, h⟩ : (i : Int) ∈ lsT f 10)
  refine ⟨j, by rw [(rev_at hf).2]; exact hj, ?_⟩
  unfold nthI
  rw [List.getD_eq_getElem?_getD, List.getElem?_eq_getElem hj]
  exact e
set_option maxRecDepth 20000 in
set_option maxHeartbeats 2000000 in
theorem list_any (f : Nat) (w : World) (hf : f < 1024) :
    Calls Try.prog 54 #[.int .u32 (f : Int)] w fun e w' => ∃ s c, e = .returned (.slice s (popS f) c) ∧ OwnI w.heap.size w' s (popS f) (nthI (lsT f 10)) ∧ Below w.heap.size w w' := by
  go_enter Try.func54, Try.ntmps54
  go_wp2_with fail
  go_loopw [3, 5] (fun v i wr => ∃ k : Nat, k ≤ 10 ∧ i = .int .i64 k ∧ Hid (MadeL w.heap.size 0 0 w wr v (lsT f k))) (fun _ i _ => 10 - (intOf i).toNat)
  case atStart => exact ⟨0, Nat.zero_le _, rfl, madeL_nil w⟩
  case round =>
    obtain ⟨k, hk, rfl, HM⟩ := hrel
    have zr : w.heap.size ≤ wr.heap.size := HM.out.2.1.size
    by_cases h1 : k < 10
    · have k1 : (k : Int) < 10 := by omega
      go_wp2_with fail
      refine (has_any f k _ (by omega) (by omega)).mono ?_
      rintro e w1 ⟨rfl, rfl⟩
      cases q : f.testBit k
      · have HE : Hid (lsT f (k + 1) = lsT f k) := by show (if f.testBit k = true then lsT f k ++ [(k : Int)] else lsT f k) = _; rw [q]; rfl
        go_wp2
        go_roundw
        case rel => exact ⟨k + 1, by omega, by go_num, by rw [HE.out]; exact HM.out⟩
        case measure => first | (simp [intOf]; done) | (simp [intOf]; omega)
      · have HE : Hid (lsT f (k + 1) = lsT f k ++ [(k : Int)]) := by show (if f.testBit k = true then lsT f k ++ [(k : Int)] else lsT f k) = _; rw [q]; rfl
        have LL := ls_len f k
        obtain ⟨l, hl⟩ : ∃ l, lsT f k = l := ⟨_, rfl⟩
        rw [hl] at LL HE HM
        have HOH : Hid (w1.ownsRow w.heap.size 2 1 u3 l.length (cellsOf l)) := HM.out.1
        clear hl
        go_wp2_with (at_builtin; refine list_i64h w.heap.size u3 l.length (cellsOf l) (.tmp 11) (.tmp 13) (by rfl) (by rfl) (by rfl) (by rfl) HOH.out (by omega) (by omega) ?_; intro g' cap' w9 hown9 hgrow9 hlt9 hat9)
        go_roundw
        case rel => exact ⟨k + 1, by omega, by go_num, by rw [HE.out]; exact madeL_on HM.out (Below.refl _ _) (by omega) (by omega) hown9 hgrow9 hat9⟩
        case measure => first | (simp [intOf]; done) | (simp [intOf]; omega)
    · obtain rfl : k = 10 := by omega
      obtain ⟨s, cap, rfl, ho, -⟩ := madeL_own HM.out
      have HP : Hid (OwnI w.heap.size wr s (popS f) (nthI (lsT f 10)) ∧ Below w.heap.size w wr) := ⟨by rw [(rev_at hf).2]; exact ho, HM.out.2.1⟩
      have HLn : Hid (popS f = (lsT f 10).length) := (rev_at hf).2
      clear ho HM
      obtain ⟨m, hm⟩ : ∃ m, (lsT f 10).length = m := ⟨_, rfl⟩
      rw [hm] at HLn ⊢
      go_wp2
      go_ret
      exact ⟨s, cap, (by rw [HLn.out]; rfl), HP.out.1, HP.out.2⟩
set_option maxRecDepth 20000 in
set_option maxHeartbeats 2000000 in
theorem least_any (f x n : Nat) (X : Nat → Int) (K : Nat → Nat) (V : Nat → Nat → Int) (g N c : Nat) (w : World) (x1 : x ≤ 10) (HN : Hid (2 ^ x = N)) (hf : f < N) (hN : N ≤ 1024) (HF : Hid (RowB w (some ⟨g, 0, none⟩) N (fun b => faB b x n X K V))) :
    Calls Try.prog 80 #[.int .u32 (f : Int), .slice (some ⟨g, 0, none⟩) N c] w fun e w' => e = .returned (.bool (lsB x n X K V f)) ∧ Below w.heap.size w w' := by
  have Hf : Hid (f < 2 ^ x) := by show f < 2 ^ x; rw [HN.out]; exact hf
  go_enter Try.func80, Try.ntmps80
  go_wp2_with fail
  refine (list_any f _ (by omega)).mono ?_
  rintro e w1 ⟨s1, c1, rfl, O1, h1⟩
  have HR1 : Hid (RowI w1 s1 (popS f) (nthI (lsT f 10))) := O1.row
  have HB1 : Hid (Below w.heap.size w w1) := h1
  have HF1 : Hid (RowB w1 (some ⟨g, 0, none⟩) N (fun b => faB b x n X K V)) := HF.out.below h1
  have HP : Hid (popS f ≤ x) := pop_le Hf.out x1
  obtain ⟨m, hm⟩ : ∃ m, popS f = m := ⟨_, rfl⟩
  rw [hm] at HR1 HP ⊢
  have HM : Hid (popS f = m) := hm
  have m10 : m ≤ 10 := Nat.le_trans HP.out x1
  clear O1 h1 hm HP
  go_wp2_with fail
  go_loopw [10] (fun i wr => ∃ k : Nat, k ≤ m ∧ i = .int .i64 k ∧ wr = w1 ∧ Hid (∀ q i : Nat, q < k → nthI (lsT f 10) q = (i : Int) → faB (f - 2 ^ i) x n X K V = false)) (fun i _ => m - (intOf i).toNat)
  case atStart => exact ⟨0, Nat.zero_le _, rfl, rfl, fun q i hq => by omega⟩
  case round =>
    obtain ⟨k, hk, rfl, rfl, HA⟩ := hrel
    rename_i w1 _
    by_cases h1 : k < m
    · obtain ⟨b, o, rfl, hb, c0⟩ := HR1.out k h1
      obtain ⟨i, i1, i2, i3⟩ := ls_at Hf.out x1 (show k < popS f by rw [HM.out]; exact h1)
      have HI2 : Hid (nthI (lsT f 10) k = (i : Int)) := i2
      have HI3 : Hid (f.testBit i = true) := i3
      rw [i2] at c0
      have k1 : (k : Int) < (m : Int) := by omega
      obtain ⟨D, hD⟩ : ∃ D, f - 2 ^ i = D := ⟨_, rfl⟩
      have HD : Hid (f - 2 ^ i = D) := hD
      have D1 : D < N := by have := Nat.sub_le f (2 ^ i); omega
      have D2 : (D : Int) < (N : Int) := by omega
      obtain ⟨g', o', e', hg', d0⟩ := HF1.out D D1
      cases e'
      rw [Nat.zero_add] at d0
      replace d0 : _ = some (Value.bool (faB D x n X K V)) := d0
      clear i2 i3 hD
      go_wp2_with fail
      refine (without_any f i _ (by omega) (by omega) HI3).mono ?_
      rintro e w2 ⟨rfl, rfl⟩
      rw [HD.out]
      cases q : faB D x n X K V
      · rw [q] at d0
        go_wp2
        go_roundw
        case rel => exact ⟨k + 1, by omega, by go_num, by first | rfl | trivial, fun q' i' hq e => by
          by_cases z : q' = k
          · subst z
            obtain rfl : i' = i := by have := e.symm.trans HI2.out; omega
            rw [HD.out]; exact q
          · exact HA.out q' i' (by omega) e⟩
        case measure => first | (simp [intOf]; done) | (simp [intOf]; omega)
      · rw [q] at d0
        have HO : Hid (lsB x n X K V f = false) := by
          show decide _ = false
          refine decide_eq_false fun h => ?_
          have := h i i1 HI3.out
          rw [HD.out, q] at this
          cases this
        go_wp2
        go_ret
        exact ⟨ret_bool HO.out.symm, HB1.out⟩
    · obtain rfl : k = m := by omega
      have HO : Hid (lsB x n X K V f = true) := by
        show decide _ = true
        refine decide_eq_true fun i hi hb => ?_
        obtain ⟨j, j1, j2⟩ := ls_hit (show f < 1024 by omega) (show i < 10 by omega) hb
        exact HA.out j i (by rw [← HM.out]; exact j1) j2
      go_wp2
      go_ret
      exact ⟨ret_bool HO.out.symm, HB1.out⟩
theorem madeU_kept {base : Nat} {w wr w1 : World} {v : Value} {k : Nat} {U : Nat → Int} (h : MadeU base w wr v k U) (hb : Below wr.heap.size wr w1) (hz : base ≤ wr.heap.size) : MadeU base w w1 v k U :=
  ⟨⟨h.1.1, h.1.2.imp id fun ⟨g, cap, cur, e, b, hg, r⟩ => ⟨g, cap, cur, e, b, (hb.block g (Array.getElem?_eq_some_iff.1 hg).1).trans hg, r⟩⟩, h.2.trans (hb.mono hz)⟩
theorem madeU_as {base : Nat} {w wr : World} {v : Value} {k : Nat} {U U' : Nat → Int} (h : MadeU base w wr v k U) (e : ∀ j, j < k → U j = U' j) : MadeU base w wr v k U' := ⟨by rw [← valsU_congr e]; exact h.1, h.2⟩
def CutsPost (x n : Nat) (X : Nat → Int) (K : Nat → Nat) (V : Nat → Nat → Int) (w : World) (e : Ending) (w' : World) : Prop := ∃ s c m W, e = .returned (.slice s m c) ∧ m ≤ 512 ∧ OwnU w.heap.size w' s m W ∧ CutG (mnB x n X K V) (2 ^ x) m W ∧ Below w.heap.size w w'
set_option maxRecDepth 20000 in
set_option maxHeartbeats 4000000 in
theorem cuts_any (x : Nat) (s : Option Addr) (n c : Nat) (X : Nat → Int) (K : Nat → Nat) (V : Nat → Nat → Int) (w : World) (HT : Hid (treeB (x : Int) n X K V = true)) (HR : Hid (RowGat w s n X K V)) :
    Calls Try.prog 53 #[.agg #[.int .i64 (x : Int), .slice s n c]] w fun e w' => CutsPost x n X K V w e w' := by
  obtain ⟨⟨x0, x1⟩, -, -⟩ := tree_yes HT.out
  go_enter Try.func53, Try.ntmps53
  go_wp2_with fail
  refine (failing_any x s n c X K V _ HT (HR.out.below (by repeat (first | with_reducible exact Below.refl _ _ | with_reducible refine Below.setCell ?_ (by first | omega | (simp; done) | (simp; omega)) _ | with_reducible refine bDrewN ?_ _ | with_reducible refine Below.drew ?_ | with_reducible refine Below.alloc ?_ (by first | omega | (simp; done) | (simp; omega)) _)))).mono ?_
  rintro e w3 ⟨g, rfl, O3, h3⟩
  have HF : Hid (RowB w3 (some ⟨g, 0, none⟩) (2 ^ x) (fun b => faB b x n X K V)) := O3.row
  have HB3 : Hid (Below w.heap.size w w3) := Below.trans (by repeat (first | with_reducible exact Below.refl _ _ | with_reducible refine Below.setCell ?_ (by first | omega | (simp; done) | (simp; omega)) _ | with_reducible refine bDrewN ?_ _ | with_reducible refine Below.drew ?_ | with_reducible refine Below.alloc ?_ (by first | omega | (simp; done) | (simp; omega)) _)) (h3.mono (by first | omega | (simp; done) | (simp; omega)))
  have zg : g < w3.heap.size := by
    obtain ⟨b, e, _, hl, _⟩ := O3 0 (Nat.two_pow_pos x)
    cases e; exact hl
  clear h3 O3
  obtain ⟨N, hN⟩ : ∃ N, 2 ^ x = N := ⟨_, rfl⟩
  have N1 : N ≤ 1024 := by rw [← hN]; exact (Nat.pow_le_pow_right (by decide) (by omega) : 2 ^ x ≤ 2 ^ 10)
  rw [hN] at HF ⊢
  have HN : Hid (2 ^ x = N) := hN
  clear hN
  go_wp2_with fail
  go_loopw [3, 11] (fun v i wr => ∃ (k m : Nat) (U : Nat → Int), k ≤ N ∧ i = .int .i64 k ∧ Hid (MadeU w3.heap.size w3 wr v m U) ∧ Hid (CutA (mnB x n X K V) k m U)) (fun _ i _ => N - (intOf i).toNat)
  case atStart => exact ⟨0, 0, fun _ => 0, Nat.zero_le _, rfl, made_nilU w3 _, cutA_zero _ _⟩
  case round =>
    obtain ⟨k, m, U, hk, rfl, HM, HA⟩ := hrel
    have HBr : Hid (Below w3.heap.size w3 wr) := HM.out.2
    have zr : w3.heap.size ≤ wr.heap.size := HBr.out.size
    have HFr : Hid (RowB wr (some ⟨g, 0, none⟩) N (fun b => faB b x n X K V)) := HF.out.below HBr.out
    have mk : m ≤ k := HA.out.1
    by_cases h4 : k < N
    · obtain ⟨g', o', e', hg', c0⟩ := HFr.out k h4
      cases e'
      rw [Nat.zero_add] at c0
      replace c0 : _ = some (Value.bool (faB k x n X K V)) := c0
      have b1 : (k : Int) < (N : Int) := by omega
      cases q : faB k x n X K V
      · rw [q] at c0
        have HX : Hid (CutA (mnB x n X K V) (k + 1) m U) := cutA_keep HA.out (by unfold mnB; rw [q]; rfl)
        go_wp2
        go_roundw
        case rel => exact ⟨k + 1, m, U, by omega, by go_num, HM, HX⟩
        case measure => first | (simp [intOf]; done) | (simp [intOf]; omega)
      · rw [q] at c0
        go_wp2_with fail
        refine (least_any k x n X K V g N N _ (by omega) HN h4 N1 HFr).mono ?_
        rintro e w4 ⟨rfl, h5⟩
        have HM4 : Hid (MadeU w3.heap.size w3 w4 u3 m U) := madeU_kept HM.out h5 zr
        have z4 : w3.heap.size ≤ w4.heap.size := Nat.le_trans zr h5.size
        clear h5
        cases q2 : lsB x n X K V k
        · have HX : Hid (CutA (mnB x n X K V) (k + 1) m U) := cutA_keep HA.out (by unfold mnB; rw [q, q2]; rfl)
          go_wp2
          go_roundw
          case rel => exact ⟨k + 1, m, U, by omega, by go_num, HM4, HX⟩
          case measure => first | (simp [intOf]; done) | (simp [intOf]; omega)
        · obtain ⟨U', hU'⟩ : ∃ U' : Nat → Int, U' = fun i => if i < m then U i else (k : Int) := ⟨_, rfl⟩
          have HU1 : Hid (∀ i, i < m → U' i = U i) := fun i hi => by rw [hU']; exact if_pos hi
          have HU2 : Hid (U' m = (k : Int)) := by rw [hU']; exact if_neg (by omega)
          have HM5 : Hid (MadeU w3.heap.size w3 w4 u3 m U') := madeU_as HM4.out (fun j hj => (HU1.out j hj).symm)
          have HOW : Hid (w4.ownsRow w3.heap.size 65 1 u3 m (valsU U' m)) := HM5.out.1
          have HX : Hid (CutA (mnB x n X K V) (k + 1) (m + 1) U') := cutA_more HA.out (by unfold mnB; rw [q, q2]; rfl) HU1.out HU2.out
          clear hU' HM4 HM
          go_wp2_with (at_builtin; refine list_set w3.heap.size u3 m (valsU U' m) (.tmp 23) (.tmp 26) (by rfl) (by rfl) (by rfl) (by rfl) HOW.out (by omega) z4 ?_; intro g' cap' w7 hown7 hgrow7 hlt7)
          go_roundw
          case rel => exact ⟨k + 1, m + 1, U', by omega, by go_num, made_onU HM5.out (Below.refl _ _) z4 (by rw [HU2.out]; exact hown7) hgrow7, HX⟩
          case measure => first | (simp [intOf]; done) | (simp [intOf]; omega)
    · obtain rfl : k = N := by omega
      have HA2 : Hid (CutA (mnB x n X K V) (2 ^ x) m U) := by show CutA _ _ _ _; rw [HN.out]; exact HA.out
      have m5 : m ≤ 512 := cutA_many (by omega) (by omega) HA2.out
      obtain ⟨s', cap', hs', HOw⟩ := made_ownU HM.out
      subst hs'
      have HRU : Hid (RowU wr s' m U) := HOw.row
      have HBw : Hid (Below w.heap.size w wr) := HB3.out.trans (HBr.out.mono HB3.out.size)
      have HO : Hid (∀ i, i < m → 0 ≤ U i ∧ U i < 1024) := fun i hi => by
        obtain ⟨j, j1, j2, _⟩ := HA.out.2.2.1 i hi
        rw [j2]; omega
      clear HM HOw
      go_wp2_with fail
      refine (sortedBy_any s' m cap' (.bool false) (.bool false) (fun x => 0 ≤ x ∧ x < 1024) ltF ltF_tr ltF_tot (by omega) U _ (cmpF_any _ _ _) HRU HA.out.2.1 HO).mono ?_
      rintro e w8 ⟨s8, c8, W, rfl, O8, S8, M8, B8⟩
      have HP : Hid (OwnU wr.heap.size w8 s8 m W ∧ Below w.heap.size w w8) := ⟨O8, HBw.out.trans (B8.mono HBw.out.size)⟩
      have HG : Hid (CutG (mnB x n X K V) (2 ^ x) m W) := cutA_sorted HA2.out S8 M8
      clear O8 S8 M8 B8
      go_wp2
      go_ret
      exact ⟨s8, c8, m, W, rfl, m5, HP.out.1.mono HBw.out.size, HG.out, HP.out.2⟩
end Go.Proofs.Ytpaiajeigdifcaa
