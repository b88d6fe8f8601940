/-
What is proved: a cut's list is its set, without one of its basics it is the set without it; a failing set contains a least one.
-/
import Derived.Test.YtpaiajeigdifcaaCxJz
import Derived.Test.YtpaiajeigdifcaaQcC
import Derived.Test.YtpaiajeigdifcaaQcA
import Derived.Test.YtpaiajeigdifcaaCh
namespace Go.Proofs.Ytpaiajeigdifcaa
set_option maxRecDepth 40000
open Go.ChangeShapes Go.WideShapes Go.ChangeAt Go.RowKit
set_option linter.unusedVariables false
set_option linter.unusedSimpArgs false

theorem less_all : ((List.range 1024).all fun b => (List.range 10).all fun i => !b.testBit i || (List.range 10).all fun j => (b - 2 ^ i).testBit j == (b.testBit j && (j != i))) = true := by kernel_rfl
theorem less_bit {b i j : Nat} (hb : b < 1024) (hi : i < 10) (hj : j < 10) (h : b.testBit i = true) : (b - 2 ^ i).testBit j = (b.testBit j && (j != i)) := by
  have h1 := List.all_eq_true.1 (List.all_eq_true.1 less_all b (List.mem_range.2 hb)) i (List.mem_range.2 hi)
  rw [h] at h1
  have h2 : ((List.range 10).all fun j => (b - 2 ^ i).testBit j == (b.testBit j && (j != i))) = true := by simpa using h1
  have h3 := List.all_eq_true.1 h2 j (List.mem_range.2 hj)
  simpa using h3
theorem bit_lt {b x i : Nat} (hb : b < 2 ^ x) (h : b.testBit i = true) : i < x := by
  rcases Nat.lt_or_ge i x with q | q
  · exact q
  · have : 2 ^ x ≤ 2 ^ i := Nat.pow_le_pow_right (by decide) q
    rw [Nat.testBit_lt_two_pow (by omega)] at h
    cases h
theorem ls_rise {b : Nat} : ∀ k r r', r < r' → r' < (lsT b k).length → nthI (lsT b k) r < nthI (lsT b k) r' := by
  intro k
  induction k with
  | zero => intro r r' _ h; simp [lsT] at h
  | succ k ih =>
    intro r r' h1 h2
    unfold lsT at h2 ⊢
    split at h2
    · rename_i q
      rw [if_pos q]
      rw [List.length_append] at h2
      simp at h2
      by_cases e : r' < (lsT b k).length
      · rw [nth_left (by omega), nth_left e]
        exact ih r r' h1 e
      · have e' : r' = (lsT b k).length := by omega
        rw [nth_left (by omega), e', nth_mid]
        exact (ls_in _ (nth_mem (by omega))).2
    · rename_i q
      rw [if_neg q]
      exact ih r r' h1 h2
theorem ls_inj {b r r' : Nat} (hb : b < 1024) (h1 : r < popS b) (h2 : r' < popS b) (e : nthI (lsT b 10) r = nthI (lsT b 10) r') : r = r' := by
  rw [(rev_at hb).2] at h1 h2
  rcases Nat.lt_trichotomy r r' with q | q | q
  · have := ls_rise 10 r r' q h2; omega
  · exact q
  · have := ls_rise 10 r' r q h1; omega
theorem set_ls {b x : Nat} (hb : b < 2 ^ x) (hx : x ≤ 10) : setN x (nthI (lsT b 10)) (popS b) = b := by
  have h1 : b < 1024 := Nat.lt_of_lt_of_le hb (Nat.pow_le_pow_right (by decide) hx : 2 ^ x ≤ 2 ^ 10)
  refine Nat.eq_of_testBit_eq fun i => Bool.eq_iff_iff.2 ?_
  rw [set_bit]
  constructor
  · rintro ⟨r, r1, r2, r3⟩
    obtain ⟨i', _, h2, h3⟩ := ls_at hb hx r1
    have : i' = i := by omega
    rw [← this]; exact h3
  · intro h
    have hi := bit_lt hb h
    obtain ⟨r, r1, r2⟩ := ls_hit h1 (show i < 10 by omega) h
    exact ⟨r, r1, r2, hi⟩
/-- The list without its place k. -/
def dropU (U : Nat → Int) (k r : Nat) : Int := if r < k then U r else U (r + 1)
theorem set_drop {b x k i : Nat} (hb : b < 2 ^ x) (hx : x ≤ 10) (hk : k < popS b) (hi : nthI (lsT b 10) k = (i : Int)) : setN x (dropU (nthI (lsT b 10)) k) (popS b - 1) = b - 2 ^ i := by
  have h1 : b < 1024 := Nat.lt_of_lt_of_le hb (Nat.pow_le_pow_right (by decide) hx : 2 ^ x ≤ 2 ^ 10)
  obtain ⟨i', i1, i2, i3⟩ := ls_at hb hx hk
  have e : i' = i := by omega
  subst e
  refine Nat.eq_of_testBit_eq fun j => Bool.eq_iff_iff.2 ?_
  rw [set_bit]
  constructor
  · rintro ⟨r, r1, r2, r3⟩
    rw [less_bit h1 (by omega) (by omega) i3]
    unfold dropU at r2
    by_cases q : r < k
    · rw [if_pos q] at r2
      obtain ⟨j', _, j2, j3⟩ := ls_at hb hx (show r < popS b by omega)
      have ej : j' = j := by omega
      subst ej
      have ne : j' ≠ i' := fun z => by
        subst z
        have := ls_inj h1 (show r < popS b by omega) hk (by rw [r2, hi])
        omega
      simp [j3, ne]
    · rw [if_neg q] at r2
      obtain ⟨j', _, j2, j3⟩ := ls_at hb hx (show r + 1 < popS b by omega)
      have ej : j' = j := by omega
      subst ej
      have ne : j' ≠ i' := fun z => by
        subst z
        have := ls_inj h1 (show r + 1 < popS b by omega) hk (by rw [r2, hi])
        omega
      simp [j3, ne]
  · intro h
    have hl : b - 2 ^ i' < 2 ^ x := Nat.lt_of_le_of_lt (Nat.sub_le _ _) hb
    have hj := bit_lt hl h
    rw [less_bit h1 (by omega) (by omega) i3, Bool.and_eq_true] at h
    have ne : j ≠ i' := by simpa using h.2
    obtain ⟨r, r1, r2⟩ := ls_hit h1 (show j < 10 by omega) h.1
    have nr : r ≠ k := fun z => by subst z; rw [hi] at r2; omega
    by_cases q : r < k
    · exact ⟨r, by omega, by unfold dropU; rw [if_pos q]; exact r2, hj⟩
    · exact ⟨r - 1, by omega, by unfold dropU; rw [if_neg (by omega), show r - 1 + 1 = r by omega]; exact r2, hj⟩
theorem least_in {x n : Nat} {X : Nat → Int} {K : Nat → Nat} {V : Nat → Nat → Int} (hx : x ≤ 10) : ∀ b, b < 2 ^ x → faB b x n X K V = true → ∃ c, c < 2 ^ x ∧ mnB x n X K V c = true ∧ ∀ i, c.testBit i = true → b.testBit i = true := by
  intro b
  induction b using Nat.strongRecOn with
  | _ b ih =>
    intro hb hf
    have h1 : b < 1024 := Nat.lt_of_lt_of_le hb (Nat.pow_le_pow_right (by decide) hx : 2 ^ x ≤ 2 ^ 10)
    cases q : lsB x n X K V b
    · have q2 := of_decide_eq_false q
      obtain ⟨i, hi⟩ : ∃ i, ¬ (i < x → b.testBit i = true → faB (b - 2 ^ i) x n X K V = false) := Classical.not_forall.1 q2
      have i1 : i < x := Classical.byContradiction fun z => hi (fun z' => absurd z' z)
      have i2 : b.testBit i = true := Classical.byContradiction fun z => hi (fun _ z' => absurd z' z)
      have i3 : faB (b - 2 ^ i) x n X K V = true := by
        cases z : faB (b - 2 ^ i) x n X K V
        · exact absurd (fun _ _ => z) hi
        · rfl
      have hp : 0 < 2 ^ i := Nat.two_pow_pos i
      have hle := bit_le i2
      obtain ⟨c, c1, c2, c3⟩ := ih (b - 2 ^ i) (by omega) (by omega) i3
      refine ⟨c, c1, c2, fun j hj => ?_⟩
      have h2 := c3 j hj
      have hj' := bit_lt c1 hj
      rw [less_bit h1 (by omega) (by omega) i2, Bool.and_eq_true] at h2
      exact h2.1
    · exact ⟨b, hb, by unfold mnB; rw [hf, q]; rfl, fun i h => h⟩
/-- Are all of the list's numbers in another list? -/
def allW (U : Nat → Int) (l : Nat) (A : Nat → Int) (k : Nat) : Prop := ∀ r, r < k → ∃ q, q < l ∧ U q = A r
theorem cuts_some {x : Int} {n : Nat} {X : Nat → Int} {K : Nat → Nat} {V : Nat → Nat → Int} {m l : Nat} {W U : Nat → Int} (h : CutR (treeB x n X K V) (mnB x.toNat n X K V) (2 ^ x.toNat) m W) : fyB x n X K V l U = true ↔ ∃ i, i < m ∧ allW U l (vvW W i) (kkW W i) := by
  unfold fyB
  cases e : treeB x n X K V
  · have := h.2 e
    subst this
    exact ⟨fun q => (by cases q), fun ⟨i, hi, _⟩ => by omega⟩
  · obtain ⟨⟨x0, x1⟩, -, -⟩ := tree_yes e
    have g := h.1 e
    have hx : x.toNat ≤ 10 := by omega
    rw [Bool.true_and]
    constructor
    · intro hf
      obtain ⟨c, c1, c2, c3⟩ := least_in hx _ (set_lt _ _ _) hf
      obtain ⟨i, i1, i2⟩ := g.2.2 c c1 c2
      refine ⟨i, i1, fun r hr => ?_⟩
      rw [kk_at i2] at hr
      rw [vv_at i2]
      obtain ⟨j, j1, j2, j3⟩ := ls_at c1 hx hr
      obtain ⟨q, q1, q2, _⟩ := (set_bit _ _ _ _).1 (c3 j j3)
      exact ⟨q, q1, q2.trans j2.symm⟩
    · rintro ⟨i, i1, i2⟩
      obtain ⟨c, c1, c2, c3⟩ := g.2.1 i i1
      rw [kk_at c2, vv_at c2] at i2
      unfold mnB at c3
      rw [Bool.and_eq_true] at c3
      refine fl_mono (fun j hj => ?_) n _ c3.1
      have hj' := bit_lt c1 hj
      have h10 : c < 1024 := Nat.lt_of_lt_of_le c1 (Nat.pow_le_pow_right (by decide) hx : 2 ^ x.toNat ≤ 2 ^ 10)
      obtain ⟨r, r1, r2⟩ := ls_hit h10 (show j < 10 by omega) hj
      obtain ⟨q, q1, q2⟩ := i2 r r1
      exact (set_bit _ _ _ _).2 ⟨q, q1, q2.trans r2, hj'⟩
theorem cut_fails {x : Int} {n : Nat} {X : Nat → Int} {K : Nat → Nat} {V : Nat → Nat → Int} {m : Nat} {W : Nat → Int} (h : CutR (treeB x n X K V) (mnB x.toNat n X K V) (2 ^ x.toNat) m W) {i : Nat} (hi : i < m) : fyB x n X K V (kkW W i) (vvW W i) = true ∧ ∀ k, k < kkW W i → fyB x n X K V (kkW W i - 1) (dropU (vvW W i) k) = false := by
  cases e : treeB x n X K V
  · have := h.2 e; omega
  · obtain ⟨⟨x0, x1⟩, -, -⟩ := tree_yes e
    have hx : x.toNat ≤ 10 := by omega
    obtain ⟨c, c1, c2, c3⟩ := (h.1 e).2.1 i hi
    rw [kk_at c2, vv_at c2]
    unfold mnB at c3
    rw [Bool.and_eq_true] at c3
    refine ⟨by unfold fyB; rw [e, set_ls c1 hx, c3.1]; rfl, fun k hk => ?_⟩
    obtain ⟨j, j1, j2, j3⟩ := ls_at c1 hx hk
    unfold fyB
    rw [e, set_drop c1 hx hk j2, of_decide_eq_true c3.2 j j1 j3]
    rfl

open Go.ChangeShapes Go.WideShapes Go.ChangeAt Go.RowKit
set_option linter.unusedVariables false
set_option linter.unusedSimpArgs false

def upS (x : Nat) (E : Nat → Int) (W : Nat → Int) : Nat → Int
  | 0 => 0
  | k + 1 => upS x E W k + prdV (W k).toNat E (fun _ => 8) x
theorem up_same {x : Nat} {E W U : Nat → Int} : ∀ {k : Nat}, (∀ i, i < k → W i = U i) → upS x E W k = upS x E U k := by
  intro k
  induction k with
  | zero => intro _; rfl
  | succ k ih => intro h; unfold upS; rw [ih (fun i hi => h i (by omega)), h k (by omega)]
theorem all8 (x : Nat) : ∀ i, i < x → 0 ≤ (fun _ : Nat => (8 : Int)) i ∧ (fun _ : Nat => (8 : Int)) i ≤ 8 := fun i _ => ⟨by show (0 : Int) ≤ 8; omega, by show (8 : Int) ≤ 8; omega⟩
theorem up_bound {x : Nat} {E W : Nat → Int} (hE : ∀ i, i < x → 0 ≤ E i ∧ E i ≤ 8) (hx : x ≤ 10) (k : Nat) : 0 ≤ upS x E W k ∧ upS x E W k ≤ 1073741824 * (k : Int) := by
  induction k with
  | zero => exact ⟨Int.le_refl _, by simp [upS]⟩
  | succ k ih =>
    have h1 := prd_small (b := (W k).toNat) (k := x) hE (all8 x) hx
    unfold upS
    omega
def UpR (x : Int) (n : Nat) (X : Nat → Int) (K : Nat → Nat) (V : Nat → Nat → Int) (m : Nat) (E : Nat → Int) (r : Int) : Prop := (eigB x n X K V m E = true → ∃ k W, CutG (mnB m n X K V) (2 ^ m) k W ∧ r = upS m E W k) ∧ (eigB x n X K V m E = false → r = -1)
theorem up_ex (x : Int) (n : Nat) (X : Nat → Int) (K : Nat → Nat) (V : Nat → Nat → Int) (m : Nat) (E : Nat → Int) : ∃ R, ∀ r, UpR x n X K V m E r → r = R := by
  cases e : eigB x n X K V m E
  · exact ⟨-1, fun r h => h.2 e⟩
  · rcases Classical.em (∃ k W, CutG (mnB m n X K V) (2 ^ m) k W) with ⟨k, W, h⟩ | h
    · refine ⟨upS m E W k, fun r g => ?_⟩
      obtain ⟨k', W', g1, g2⟩ := g.1 e
      have ek : k' = k := Nat.le_antisymm (cut_len g1 h) (cut_len h g1)
      subst ek
      rw [g2]
      exact up_same (fun i hi => cut_same g1 h i hi hi)
    · exact ⟨0, fun r g => by obtain ⟨k, W, g1, _⟩ := g.1 e; exact absurd ⟨k, W, g1⟩ h⟩
def UpPost (x : Int) (n : Nat) (X : Nat → Int) (K : Nat → Nat) (V : Nat → Nat → Int) (m : Nat) (E : Nat → Int) (w : World) (e : Ending) (w' : World) : Prop := ∃ r, e = .returned (.int .i64 r) ∧ UpR x n X K V m E r ∧ Below w.heap.size w w'
theorem up_no {x : Int} {n : Nat} {X : Nat → Int} {K : Nat → Nat} {V : Nat → Nat → Int} {m : Nat} {E : Nat → Int} (h : eigB x n X K V m E = false) : UpR x n X K V m E (-1) := ⟨fun q => (by rw [h] at q; cases q), fun _ => rfl⟩
theorem up_yes {x : Int} {n : Nat} {X : Nat → Int} {K : Nat → Nat} {V : Nat → Nat → Int} {m : Nat} {E : Nat → Int} {k : Nat} {W : Nat → Int} (h : eigB x n X K V m E = true) (g : CutG (mnB m n X K V) (2 ^ m) k W) : UpR x n X K V m E (upS m E W k) := ⟨fun _ => ⟨k, W, g, rfl⟩, fun q => (by rw [h] at q; cases q)⟩

open Go.RowKit
set_option linter.unusedVariables false
set_option linter.unusedSimpArgs false

theorem row_add {w : World} {ad : Addr} {n : Nat} {V : Nat → Int} (R : RowI w (some ad) n V) : ∀ j u, (vals V n)[j]? = some u → w.cell? (ad.add j) = some u := fun j u hu => by
  have hj : j < n := by
    rcases Nat.lt_or_ge j n with h | h
    · exact h
    · rw [List.getElem?_eq_none (by rw [vals_length]; exact h)] at hu; cases hu
  rw [vals_at V hj] at hu
  cases hu
  obtain ⟨b, o, e, _, hc⟩ := R j hj
  cases e
  have : (⟨b, o, none⟩ : Addr).add j = ⟨b, o + j, none⟩ := by
    unfold Addr.add
    split
    · rename_i h; subst h; rfl
    · rfl
  rw [this]
  exact hc
theorem list_clone {ops : Array Oper} {rest : List Oper} {o : Oper} {a : Act} {Q : Exit → Act → World → Prop} {W : World} (H : Nat) (ad : Addr) (n c : Nat) (V : Nat → Int) (s z : Operand) (hgd : o.guard = none)
    (ho : o.op = .call { callee := .builtin .append, args := #[s, z], argTypes := #[30, 30] }) (hs : a.eval s = .slice (some ⟨H, 0, none⟩) 0 0) (hx : a.eval z = .slice (some ad) n c) (hH : W.heap.size = H) (hn : n ≤ 1048576) (R : RowI W (some ad) n V)
    (h : ∀ s' cap w', OwnI W.heap.size w' s' n V → Below W.heap.size W w' → wpList Try.prog ops Q rest (a.put o.dst (.slice s' n cap)) w') :
    wpList Try.prog ops Q (o :: rest) a (W.alloc (.cells #[] 2)) := by
  subst hH
  obtain ⟨i0, hi, hz0, hz1, hz2⟩ := info_parts info_i64
  have hm := made_lit W V (Nat.le_refl _)
  have R' : RowI (W.alloc (.cells #[] 2)) (some ad) n V := R.below (by repeat (first | with_reducible exact Below.refl _ _ | with_reducible refine Below.setCell ?_ (by first | omega | (simp; done) | (simp; omega)) _ | with_reducible refine bDrewN ?_ _ | with_reducible refine Below.drew ?_ | with_reducible refine Below.alloc ?_ (by first | omega | (simp; done) | (simp; omega)) _))
  refine wpList_append_own _ hgd s z 30 ho W.heap.size 2 i0 (.int .i64 0) 1 8 Try.underlying30 hi hz0 hz1 hz2 rfl (by decide) _ 0 [] hs hm.1 ad n c (vals V n) hx (by rw [vals_length, Nat.mul_one]) (row_add R') ?_ (by unfold maxLen; omega) (by omega) (by simp) ?_
  · intro u hu
    simp only [vals, List.mem_map] at hu
    obtain ⟨j, _, rfl⟩ := hu
    rfl
  · intro v' w' h2 h3 _
    rw [Nat.zero_add, List.nil_append] at h2
    obtain ⟨s', cap, rfl, O⟩ := own_OwnI (size := 1) (n := n) (U := V) (by rw [Nat.mul_one]; exact h2)
    rw [Nat.mul_one] at O
    exact h s' cap w' O (hm.2.trans (grown_below h3 (by simp) (own_block hm.1)))
theorem eq_nil (ad : Addr) (n c : Nat) (w : World) : (binOp .eql 30 (.slice (some ad) n c) (.slice none 0 0)).run Try.prog w = .ok (.bool false) w := by kernel_rfl
set_option maxHeartbeats 1000000 in
theorem clone_any (ad : Addr) (n c : Nat) (V : Nat → Int) (w : World) (hn : n ≤ 1048576) (HR : Hid (RowI w (some ad) n V)) :
    Calls Try.prog 64 #[.slice (some ad) n c] w fun e w' => ∃ s' c', e = .returned (.slice s' n c') ∧ OwnI w.heap.size w' s' n V ∧ Below w.heap.size w w' := by
  have hEq := eq_nil ad n c
  go_enter Try.func64, Try.ntmps64
  go_wp2_with (first | (refine list_clone _ ad n c V _ _ (by rfl) (by rfl) (by rfl) (by rfl) rfl hn HR.out ?_; intro s' cap w' O h))
  go_ret
  exact ⟨s', cap, rfl, O, h⟩

open Go.ChangeShapes Go.WideShapes Go.ChangeAt Go.RowKit
set_option linter.unusedVariables false
set_option linter.unusedSimpArgs false

def setE (E : Nat → Int) (q : Nat) (v : Int) (i : Nat) : Int := if i = q then v else E i
theorem set_in {E : Nat → Int} {x q : Nat} {v : Int} (hE : ∀ i, i < x → 0 ≤ E i ∧ E i ≤ 8) (v0 : 0 ≤ v) (v8 : v ≤ 8) : ∀ i, i < x → 0 ≤ setE E q v i ∧ setE E q v i ≤ 8 := fun i hi => by
  unfold setE
  split
  · exact ⟨v0, v8⟩
  · exact hE i hi
theorem set_twice (E : Nat → Int) (q : Nat) (u v : Int) : setE (setE E q u) q v = setE E q v := by
  funext i
  unfold setE
  by_cases e : i = q
  · rw [if_pos e, if_pos e]
  · rw [if_neg e, if_neg e, if_neg e]
theorem own_set {base : Nat} {w : World} {g m : Nat} {E : Nat → Int} {q : Nat} {v : Int} (h : OwnI base w (some ⟨g, 0, none⟩) m E) (hq : q < m) : OwnI base (w.setCell ⟨g, q, none⟩ (.int .i64 v)) (some ⟨g, 0, none⟩) m (setE E q v) := fun j hj => by
  obtain ⟨b, e, hb, hl, hc, hf⟩ := h j hj
  cases e
  refine ⟨g, rfl, hb, by simpa using hl, ?_, by simpa [go_sem] using hf⟩
  unfold setE
  by_cases e : j = q
  · subst e
    rw [if_pos rfl]
    exact World.cell?_setCell_same' _ _ _ (by rw [hc]; rfl)
  · rw [if_neg e, World.cell?_setCell_other _ _ _ _ (by intro z; cases z; exact e rfl)]
    exact hc
theorem set_belowW {w w' : World} {B g o : Nat} {v : Value} (h : Below B w w') (hg : B ≤ g) (hB : B ≤ w'.heap.size) : Below B w (w'.setCell ⟨g, o, none⟩ v) := h.trans ((Beside.setCell g w' o v).below hg hB)
def wtB (x : Int) (n : Nat) (X : Nat → Int) (K : Nat → Nat) (V : Nat → Nat → Int) (m : Nat) (E : Nat → Int) (q : Int) : Bool := eigB x n X K V m E && inB 0 (x - 1) q
def weightV (x : Int) (n : Nat) (X : Nat → Int) (K : Nat → Nat) (V : Nat → Nat → Int) (m : Nat) (E : Nat → Int) (q : Int) : Int := if wtB x n X K V m E q = true then chaV x.toNat n X K V (setE E q.toNat 8) (2 ^ x.toNat) - chaV x.toNat n X K V (setE E q.toNat 0) (2 ^ x.toNat) else -1
theorem chance_set {x n : Nat} {X : Nat → Int} {K : Nat → Nat} {V : Nat → Nat → Int} {E : Nat → Int} (h : eigB (x : Int) n X K V x E = true) (q : Nat) (v : Int) (v0 : 0 ≤ v) (v8 : v ≤ 8) : chanceV (x : Int) n X K V x (setE E q v) = chaV x n X K V (setE E q v) (2 ^ x) := by
  obtain ⟨h1, _, h3⟩ := eig_yes h
  have h4 : eigB (x : Int) n X K V x (setE E q v) = true := by
    unfold eigB
    have : allInB 0 8 (setE E q v) x = true := decide_eq_true (set_in h3 v0 v8)
    rw [h1, this]; simp
  unfold chanceV
  rw [h4, Int.toNat_natCast]
  rfl
theorem cha_top {x n : Nat} {X : Nat → Int} {K : Nat → Nat} {V : Nat → Nat → Int} {E : Nat → Int} (hE : ∀ i, i < x → 0 ≤ E i ∧ E i ≤ 8) (hx : x ≤ 10) : 0 ≤ chaV x n X K V E (2 ^ x) ∧ chaV x n X K V E (2 ^ x) ≤ 1099511627776 := by
  have h := cha_bound (n := n) (X := X) (K := K) (V := V) hE hx (2 ^ x)
  have hp : 2 ^ x ≤ 2 ^ 10 := Nat.pow_le_pow_right (by decide) hx
  have hq : ((2 ^ x : Nat) : Int) ≤ 1024 := by have : ((2 ^ x : Nat) : Int) ≤ ((2 ^ 10 : Nat) : Int) := Int.ofNat_le.2 hp; simpa using this
  exact ⟨h.1, by omega⟩

open Go.ChangeShapes Go.WideShapes Go.ChangeAt Go.RowKit
set_option linter.unusedVariables false
set_option linter.unusedSimpArgs false

def sumB (f : Nat → Int) : Nat → Int
  | 0 => 0
  | b + 1 => sumB f b + f b
theorem sumB_split (f : Nat → Int) (N M : Nat) : sumB f (N + M) = sumB f N + sumB (fun b => f (N + b)) M := by
  induction M with
  | zero => simp [sumB]
  | succ M ih =>
    rw [show N + (M + 1) = (N + M) + 1 by omega]
    show sumB f (N + M) + f (N + M) = sumB f N + (sumB (fun b => f (N + b)) M + f (N + M))
    rw [ih]; omega
theorem sumB_same {f g : Nat → Int} {N : Nat} (h : ∀ b, b < N → f b = g b) : sumB f N = sumB g N := by
  induction N with
  | zero => rfl
  | succ N ih => unfold sumB; rw [ih (fun b hb => h b (by omega)), h N (by omega)]
theorem sumB_le {f g : Nat → Int} {N : Nat} (h : ∀ b, b < N → f b ≤ g b) : sumB f N ≤ sumB g N := by
  induction N with
  | zero => exact Int.le_refl _
  | succ N ih =>
    have h1 := ih (fun b hb => h b (by omega))
    have h2 := h N (by omega)
    unfold sumB
    omega
theorem sumB_mul (f : Nat → Int) (c : Int) (N : Nat) : sumB (fun b => f b * c) N = sumB f N * c := by
  induction N with
  | zero => simp [sumB]
  | succ N ih => unfold sumB; rw [ih, Int.add_mul]
theorem sumB_add (f g : Nat → Int) (N : Nat) : sumB (fun b => f b + g b) N = sumB f N + sumB g N := by
  induction N with
  | zero => rfl
  | succ N ih => unfold sumB; rw [ih]; omega
def subB (c b : Nat) : Nat → Bool
  | 0 => true
  | i + 1 => subB c b i && (!c.testBit i || b.testBit i)
theorem sub_yes {c b : Nat} {x : Nat} (h : ∀ i, c.testBit i = true → b.testBit i = true) : subB c b x = true := by
  induction x with
  | zero => rfl
  | succ x ih =>
    unfold subB
    rw [ih]
    cases e : c.testBit x
    · rfl
    · rw [h x e]; rfl
theorem sub_low (c b x : Nat) : ∀ k, k ≤ x → subB c (2 ^ x + b) k = subB c b k := by
  intro k
  induction k with
  | zero => intro _; rfl
  | succ k ih => intro h; unfold subB; rw [ih (by omega), Nat.testBit_two_pow_add_gt (by omega)]
theorem prd_low (b x : Nat) (A B : Nat → Int) : ∀ k, k ≤ x → prdV (2 ^ x + b) A B k = prdV b A B k := by
  intro k
  induction k with
  | zero => intro _; rfl
  | succ k ih => intro h; unfold prdV; rw [ih (by omega), Nat.testBit_two_pow_add_gt (by omega)]
theorem sup_sum (E B : Nat → Int) (c : Nat) : ∀ x, sumB (fun b => if subB c b x = true then prdV b E B x else 0) (2 ^ x) = prdV c E (fun i => E i + B i) x := by
  intro x
  induction x with
  | zero => simp [sumB, subB, prdV]
  | succ x ih =>
    have e2 : 2 ^ (x + 1) = 2 ^ x + 2 ^ x := by rw [Nat.pow_succ]; omega
    have h1 : sumB (fun b => if subB c b (x + 1) = true then prdV b E B (x + 1) else 0) (2 ^ x) = sumB (fun b => if subB c b x = true then prdV b E B x else 0) (2 ^ x) * (if c.testBit x = true then 0 else B x) := by
      rw [← sumB_mul]
      refine sumB_same fun b hb => ?_
      have hbx : b.testBit x = false := Nat.testBit_lt_two_pow hb
      show (if (subB c b x && (!c.testBit x || b.testBit x)) = true then prdV b E B x * (if b.testBit x = true then E x else B x) else 0) = _
      rw [hbx]
      cases c.testBit x <;> cases subB c b x <;> simp
    have h2 : sumB (fun b => if subB c (2 ^ x + b) (x + 1) = true then prdV (2 ^ x + b) E B (x + 1) else 0) (2 ^ x) = sumB (fun b => if subB c b x = true then prdV b E B x else 0) (2 ^ x) * E x := by
      rw [← sumB_mul]
      refine sumB_same fun b hb => ?_
      have hbx : (2 ^ x + b).testBit x = true := by rw [Nat.testBit_two_pow_add_eq, Nat.testBit_lt_two_pow hb]; rfl
      show (if (subB c (2 ^ x + b) x && (!c.testBit x || (2 ^ x + b).testBit x)) = true then prdV (2 ^ x + b) E B x * (if (2 ^ x + b).testBit x = true then E x else B x) else 0) = _
      rw [hbx, sub_low c b x x (Nat.le_refl _), prd_low b x E B x (Nat.le_refl _)]
      cases c.testBit x <;> cases subB c b x <;> simp
    rw [e2, sumB_split, h1, h2, ih]
    show _ = prdV c E (fun i => E i + B i) x * (if c.testBit x = true then E x else E x + B x)
    cases c.testBit x
    · rw [if_neg (by decide), if_neg (by decide), Int.mul_add, Int.add_comm]
    · rw [if_pos rfl, if_pos rfl, Int.mul_zero, Int.zero_add]
def cntS (W : Nat → Int) (x b : Nat) : Nat → Int
  | 0 => 0
  | k + 1 => cntS W x b k + (if subB (W k).toNat b x = true then 1 else 0)
theorem cnt_pos (W : Nat → Int) (x b : Nat) : ∀ k, 0 ≤ cntS W x b k ∧ ((∃ i, i < k ∧ subB (W i).toNat b x = true) → 1 ≤ cntS W x b k) := by
  intro k
  induction k with
  | zero => exact ⟨Int.le_refl _, fun ⟨i, hi, _⟩ => by omega⟩
  | succ k ih =>
    unfold cntS
    refine ⟨by split <;> omega, ?_⟩
    rintro ⟨i, hi, h⟩
    by_cases e : i = k
    · subst e; rw [if_pos h]; omega
    · have := ih.2 ⟨i, by omega, h⟩
      split <;> omega
theorem up_sum (x : Nat) (E : Nat → Int) (W : Nat → Int) : ∀ k, upS x E W k = sumB (fun b => cntS W x b k * prdV b E (fun i => 8 - E i) x) (2 ^ x) := by
  intro k
  induction k with
  | zero =>
    have : sumB (fun b => cntS W x b 0 * prdV b E (fun i => 8 - E i) x) (2 ^ x) = sumB (fun b => 0 * (0 : Int)) (2 ^ x) := sumB_same fun b _ => by simp [cntS]
    rw [this, sumB_mul]
    simp [upS]
  | succ k ih =>
    have h := sup_sum E (fun i => 8 - E i) (W k).toNat x
    have h2 : prdV (W k).toNat E (fun i => E i + (fun i => 8 - E i) i) x = prdV (W k).toNat E (fun _ => 8) x := prd_same (fun _ _ => rfl) (fun i _ => by show E i + (8 - E i) = 8; omega)
    unfold upS
    rw [ih, ← h2, ← h, ← sumB_add]
    refine sumB_same fun b _ => ?_
    show _ = (cntS W x b k + (if subB (W k).toNat b x = true then 1 else 0)) * _
    rw [Int.add_mul]
    split <;> simp
theorem cha_sum (x n : Nat) (X : Nat → Int) (K : Nat → Nat) (V : Nat → Nat → Int) (E : Nat → Int) : ∀ N, chaV x n X K V E N = sumB (fun b => if faB b x n X K V = true then prdV b E (fun i => 8 - E i) x else 0) N := by
  intro N
  induction N with
  | zero => rfl
  | succ N ih => unfold chaV sumB; rw [ih]
theorem cha_up {x n : Nat} {X : Nat → Int} {K : Nat → Nat} {V : Nat → Nat → Int} {E : Nat → Int} (hE : ∀ i, i < x → 0 ≤ E i ∧ E i ≤ 8) (hx : x ≤ 10) {k : Nat} {W : Nat → Int} (g : CutG (mnB x n X K V) (2 ^ x) k W) : chaV x n X K V E (2 ^ x) ≤ upS x E W k := by
  rw [cha_sum, up_sum]
  refine sumB_le fun b hb => ?_
  have hp := (prd_bound (b := b) hE (sub8 hE)).1
  obtain ⟨c0, c1⟩ := cnt_pos W x b k
  show (if faB b x n X K V = true then prdV b E (fun i => 8 - E i) x else 0) ≤ cntS W x b k * prdV b E (fun i => 8 - E i) x
  split
  · rename_i hf
    obtain ⟨c, q1, q2, q3⟩ := least_in hx b hb hf
    obtain ⟨i, i1, i2⟩ := g.2.2 c q1 q2
    have h1 := c1 ⟨i, i1, by rw [i2, Int.toNat_natCast]; exact sub_yes q3⟩
    have := Int.mul_le_mul_of_nonneg_right h1 hp
    omega
  · exact Int.mul_nonneg c0 hp
theorem prd_eight (E : Nat → Int) : ∀ x, prdV 0 E (fun _ => 8) x = 8 ^ x := by
  intro x
  induction x with
  | zero => rfl
  | succ x ih => unfold prdV; rw [ih, Nat.zero_testBit, if_neg (by decide), Int.pow_succ]
theorem cha_whole {x n : Nat} {X : Nat → Int} {K : Nat → Nat} {V : Nat → Nat → Int} {E : Nat → Int} (hE : ∀ i, i < x → 0 ≤ E i ∧ E i ≤ 8) : chaV x n X K V E (2 ^ x) ≤ 8 ^ x := by
  have h := sup_sum E (fun i => 8 - E i) 0 x
  have h2 : prdV 0 E (fun i => E i + (fun i => 8 - E i) i) x = prdV 0 E (fun _ => 8) x := prd_same (fun _ _ => rfl) (fun i _ => by show E i + (8 - E i) = 8; omega)
  rw [h2, prd_eight] at h
  rw [cha_sum, ← h]
  refine sumB_le fun b hb => ?_
  have hp := (prd_bound (b := b) hE (sub8 hE)).1
  show (if faB b x n X K V = true then prdV b E (fun i => 8 - E i) x else 0) ≤ (if subB 0 b x = true then prdV b E (fun i => 8 - E i) x else 0)
  rw [if_pos (sub_yes (fun i q => by rw [Nat.zero_testBit] at q; cases q))]
  split
  · exact Int.le_refl _
  · exact hp
theorem prd_lin (E : Nat → Int) (b i : Nat) : ∀ k, i < k → 8 * prdV b E (fun j => 8 - E j) k = E i * (prdV b (setE E i 8) (fun j => 8 - setE E i 8 j) k - prdV b (setE E i 0) (fun j => 8 - setE E i 0 j) k) + 8 * prdV b (setE E i 0) (fun j => 8 - setE E i 0 j) k := by
  intro k
  induction k with
  | zero => intro h; omega
  | succ k ih =>
    intro h
    unfold prdV
    by_cases e : i = k
    · subst e
      have a1 : ∀ v : Int, prdV b (setE E i v) (fun j => 8 - setE E i v j) i = prdV b E (fun j => 8 - E j) i := fun v => prd_same (fun j hj => by unfold setE; rw [if_neg (by omega)]) (fun j hj => by show 8 - setE E i v j = 8 - E j; unfold setE; rw [if_neg (by omega)])
      have a2 : ∀ v : Int, setE E i v i = v := fun v => by unfold setE; rw [if_pos rfl]
      rw [a1, a1]
      simp only [a2]
      cases b.testBit i
      · simp; grind
      · simp; grind
    · have q := ih (by omega)
      have a2 : ∀ v : Int, setE E i v k = E k := fun v => by unfold setE; rw [if_neg (by omega)]
      simp only [a2]
      cases b.testBit k
      · simp; grind
      · simp; grind
theorem cha_lin {x n : Nat} {X : Nat → Int} {K : Nat → Nat} {V : Nat → Nat → Int} {E : Nat → Int} {i : Nat} (hi : i < x) : ∀ N, 8 * chaV x n X K V E N = E i * (chaV x n X K V (setE E i 8) N - chaV x n X K V (setE E i 0) N) + 8 * chaV x n X K V (setE E i 0) N := by
  intro N
  induction N with
  | zero => simp [chaV]
  | succ N ih =>
    have q := prd_lin E N i x hi
    unfold chaV
    split
    · grind
    · grind

end Go.Proofs.Ytpaiajeigdifcaa
