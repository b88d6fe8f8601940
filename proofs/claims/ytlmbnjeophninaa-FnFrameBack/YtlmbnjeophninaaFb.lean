/-
What is proved: the sum of bytes with one bit turned is another; a right frame's bytes have no fault and are read back; with one bit turned they have a fault.
-/
import Derived.Test.YtlmbnjeophninaaWf
import Derived.Test.YtlmbnjeophninaaRf
namespace Go.Proofs.Ytlmbnjeophninaa
set_option maxRecDepth 40000
open Go.RowKit
set_option linter.unusedVariables false
set_option linter.unusedSimpArgs false

theorem crcStep_is {x : Nat} (hx : x < 65536) : crcStep x = (2 * x % 65536) ^^^ (if x.testBit 15 = true then 4129 else 0) := by
  unfold crcStep
  have hb : x.testBit 15 = decide (32768 ≤ x) := by
    rw [Nat.testBit_eq_decide_div_mod_eq]
    by_cases h : 32768 ≤ x
    · rw [decide_eq_true h]; exact decide_eq_true (by omega)
    · rw [decide_eq_false h]; exact decide_eq_false (by omega)
  rw [hb]
  by_cases h : 32768 ≤ x
  · rw [if_pos h, decide_eq_true h, if_pos rfl, show 2 * x % 65536 = 2 * x - 65536 by omega]
  · rw [if_neg h, decide_eq_false h, if_neg (by decide), Nat.xor_zero, Nat.mod_eq_of_lt (by omega)]
theorem xlc (a b c : Nat) : a ^^^ (b ^^^ c) = b ^^^ (a ^^^ c) := by rw [← Nat.xor_assoc, Nat.xor_comm a b, Nat.xor_assoc]
theorem xcc (a b : Nat) : a ^^^ (a ^^^ b) = b := by rw [← Nat.xor_assoc, Nat.xor_self, Nat.zero_xor]
theorem xor_zero_eq {a b : Nat} (h : a ^^^ b = 0) : a = b := by
  have := congrArg (fun z => z ^^^ b) h
  simp only [Nat.xor_assoc, Nat.xor_self, Nat.xor_zero, Nat.zero_xor] at this
  exact this
theorem dbl_xor (x y : Nat) : 2 * (x ^^^ y) % 65536 = (2 * x % 65536) ^^^ (2 * y % 65536) := by
  have e : ∀ z : Nat, 2 * z % 65536 = (z <<< 1) % 2 ^ 16 := fun z => by rw [Nat.shiftLeft_eq, Nat.mul_comm]
  rw [e, e, e, Nat.shiftLeft_xor_distrib, Nat.xor_mod_two_pow]
theorem crcStep_xor {x y : Nat} (hx : x < 65536) (hy : y < 65536) : crcStep (x ^^^ y) = crcStep x ^^^ crcStep y := by
  have hz : x ^^^ y < 65536 := Nat.xor_lt_two_pow (n := 16) hx hy
  rw [crcStep_is hx, crcStep_is hy, crcStep_is hz, dbl_xor, Nat.testBit_xor]
  generalize 2 * x % 65536 = A
  generalize 2 * y % 65536 = B
  cases x.testBit 15 <;> cases y.testBit 15
  · simp
  · show (A ^^^ B) ^^^ 4129 = (A ^^^ 0) ^^^ (B ^^^ 4129)
    rw [Nat.xor_zero, Nat.xor_assoc]
  · show (A ^^^ B) ^^^ 4129 = (A ^^^ 4129) ^^^ (B ^^^ 0)
    rw [Nat.xor_zero, Nat.xor_assoc, Nat.xor_assoc, Nat.xor_comm B]
  · show (A ^^^ B) ^^^ 0 = (A ^^^ 4129) ^^^ (B ^^^ 4129)
    rw [Nat.xor_zero, Nat.xor_assoc, xlc 4129 B, Nat.xor_self, Nat.xor_zero]
theorem crcStep_zero {x : Nat} (hx : x < 65536) (h : crcStep x = 0) : x = 0 := by
  unfold crcStep at h
  split at h
  · have : 2 * x - 65536 = 4129 := by
      exact xor_zero_eq h
    omega
  · omega
theorem crcR_xor {x y : Nat} (hx : x < 65536) (hy : y < 65536) : ∀ k, crcR k (x ^^^ y) = crcR k x ^^^ crcR k y
  | 0 => rfl
  | k + 1 => by
    show crcStep (crcR k (x ^^^ y)) = _
    rw [crcR_xor hx hy k, crcStep_xor (crcR_lt hx k) (crcR_lt hy k)]
    rfl
theorem crcR_zero {x : Nat} (hx : x < 65536) : ∀ k, crcR k x = 0 → x = 0
  | 0, h => h
  | k + 1, h => crcR_zero hx k (crcStep_zero (crcR_lt hx k) h)
/-- The bytes with one bit turned. -/
def flipV (V : Nat → Int) (i k : Nat) (j : Nat) : Int := if j = i then (((V i).toNat ^^^ 2 ^ k : Nat) : Int) else V j
theorem flipV_at (V : Nat → Int) (i k : Nat) : flipV V i k i = (((V i).toNat ^^^ 2 ^ k : Nat) : Int) := if_pos rfl
theorem flipV_ne {V : Nat → Int} {i k j : Nat} (h : j ≠ i) : flipV V i k j = V j := if_neg h
theorem crcN_congr {V U : Nat → Int} : ∀ n, (∀ j, j < n → V j = U j) → crcN V n = crcN U n
  | 0, _ => rfl
  | n + 1, h => by
    show crcR 8 (crcB (crcN V n) (V n)) = crcR 8 (crcB (crcN U n) (U n))
    rw [crcN_congr n (fun j hj => h j (by omega)), h n (by omega)]
theorem mul256_xor (a b : Nat) : (a ^^^ b) * 256 = (a * 256) ^^^ (b * 256) := by
  have e : ∀ z : Nat, z * 256 = z <<< 8 := fun z => by rw [Nat.shiftLeft_eq]
  rw [e, e, e, Nat.shiftLeft_xor_distrib]
theorem pow_lt8 {k : Nat} (hk : k < 8) : 2 ^ k < 256 := Nat.pow_lt_pow_right (by decide) hk
theorem flip_byt {V : Nat → Int} {i k n : Nat} (hk : k < 8) (h : ∀ j, j < n → 0 ≤ V j ∧ V j < 256) (hi : i < n) : ∀ j, j < n → 0 ≤ flipV V i k j ∧ flipV V i k j < 256 := fun j hj => by
  by_cases e : j = i
  · subst e
    rw [flipV_at]
    have h1 := h j hj
    have : (V j).toNat ^^^ 2 ^ k < 2 ^ 8 := Nat.xor_lt_two_pow (by omega) (pow_lt8 hk)
    omega
  · rw [flipV_ne e]; exact h j hj
theorem crcN_flip {V : Nat → Int} {i k : Nat} (hk : k < 8) : ∀ n, i < n → (∀ j, j < n → 0 ≤ V j ∧ V j < 256) → ∃ D, D < 65536 ∧ D ≠ 0 ∧ crcN (flipV V i k) n = crcN V n ^^^ D
  | 0, h, _ => absurd h (Nat.not_lt_zero i)
  | n + 1, hi, hV => by
    by_cases e : i = n
    · subst e
      have hp := pow_lt8 hk
      have hd : 2 ^ k * 256 < 65536 := Nat.mul_lt_mul_of_pos_right hp (by decide)
      have hc := crcN_lt i (fun j hj => hV j (by omega))
      have hb := crcB_lt hc (hV i (by omega)).1 (hV i (by omega)).2
      refine ⟨crcR 8 (2 ^ k * 256), crcR_lt hd 8, fun h => ?_, ?_⟩
      · have := crcR_zero hd 8 h
        have h2 : 0 < 2 ^ k := Nat.two_pow_pos k
        have h3 : 0 < 2 ^ k * 256 := Nat.mul_pos h2 (by decide)
        exact absurd this (Nat.ne_of_gt h3)
      · show crcR 8 (crcB (crcN (flipV V i k) i) (flipV V i k i)) = crcR 8 (crcB (crcN V i) (V i)) ^^^ _
        rw [crcN_congr (U := V) i (fun j hj => flipV_ne (Nat.ne_of_lt hj)), ← crcR_xor hb hd 8, flipV_at]
        unfold crcB
        rw [Int.toNat_natCast, mul256_xor, Nat.xor_assoc]
    · obtain ⟨D, d1, d2, d3⟩ := crcN_flip (V := V) (i := i) hk n (by omega) (fun j hj => hV j (by omega))
      have hc := crcN_lt n (fun j hj => hV j (by omega))
      have hb := crcB_lt hc (hV n (by omega)).1 (hV n (by omega)).2
      refine ⟨crcR 8 D, crcR_lt d1 8, fun h => d2 (crcR_zero d1 8 h), ?_⟩
      show crcR 8 (crcB (crcN (flipV V i k) n) (flipV V i k n)) = crcR 8 (crcB (crcN V n) (V n)) ^^^ _
      rw [← crcR_xor hb d1 8, d3, flipV_ne (j := n) (fun h => e h.symm)]
      unfold crcB
      rw [Nat.xor_assoc, Nat.xor_assoc, Nat.xor_comm D]
theorem nth_app1 {l m : List Int} {j : Nat} (h : j < l.length) : nthI (l ++ m) j = nthI l j := by
  unfold nthI
  simp [List.getD_eq_getElem?_getD, List.getElem?_append_left h]
theorem nth_app2 {l m : List Int} {j : Nat} : nthI (l ++ m) (l.length + j) = nthI m j := by
  unfold nthI
  simp [List.getD_eq_getElem?_getD, List.getElem?_append_right (Nat.le_add_right _ _)]
theorem nth_pair (V : Nat → Int) : ∀ k j, j < k → nthI (pairL V k) (2 * j) = V j / 256 ∧ nthI (pairL V k) (2 * j + 1) = V j % 256
  | 0, j, h => absurd h (Nat.not_lt_zero j)
  | k + 1, j, h => by
    have hl := pairL_len V k
    by_cases e : j = k
    · subst e
      have h0 := nth_app2 (l := pairL V j) (m := [V j / 256, V j % 256]) (j := 0)
      have h1 := nth_app2 (l := pairL V j) (m := [V j / 256, V j % 256]) (j := 1)
      rw [hl] at h0 h1
      exact ⟨h0, h1⟩
    · obtain ⟨h0, h1⟩ := nth_pair V k j (by omega)
      exact ⟨(nth_app1 (by omega)).trans h0, (nth_app1 (by omega)).trans h1⟩
theorem nth_head (t q : Int) (n : Nat) (V : Nat → Int) (k : Nat) : nthI (bodyL t q n V k) 0 = 165 ∧ nthI (bodyL t q n V k) 1 = t ∧ nthI (bodyL t q n V k) 2 = q / 256 ∧ nthI (bodyL t q n V k) 3 = q % 256 ∧ nthI (bodyL t q n V k) 4 = n := ⟨rfl, rfl, rfl, rfl, rfl⟩
theorem nth_value (t q : Int) (n : Nat) (V : Nat → Int) (k j : Nat) (h : j < k) : nthI (bodyL t q n V k) (5 + 2 * j) = V j / 256 ∧ nthI (bodyL t q n V k) (5 + 2 * j + 1) = V j % 256 := by
  obtain ⟨h0, h1⟩ := nth_pair V k j h
  have e0 := nth_app2 (l := [165, t, q / 256, q % 256, (n : Int)]) (m := pairL V k) (j := 2 * j)
  have e1 := nth_app2 (l := [165, t, q / 256, q % 256, (n : Int)]) (m := pairL V k) (j := 2 * j + 1)
  exact ⟨e0.trans h0, e1.trans h1⟩
/-- The bytes of a right frame, place by place. -/
theorem whole_parts {t q : Int} {n : Nat} {V : Nat → Int} (h : frameB t q n V = true) :
    let Y := nthI (wholeL t q n V)
    Y 0 = 165 ∧ Y 1 = t ∧ Y 2 = q / 256 ∧ Y 3 = q % 256 ∧ Y 4 = n ∧ (∀ j, j < n → Y (5 + 2 * j) = V j / 256 ∧ Y (5 + 2 * j + 1) = V j % 256) ∧ (crcN Y (5 + 2 * n) : Int) = sumL (bodyL t q n V n) ∧ Y (5 + 2 * n) = sumL (bodyL t q n V n) / 256 ∧ Y (6 + 2 * n) = sumL (bodyL t q n V n) % 256 := by
  have hl := bodyL_len t q n V n
  obtain ⟨p0, p1, p2, p3, p4⟩ := nth_head t q n V n
  have lo : ∀ j, j < 5 + 2 * n → nthI (wholeL t q n V) j = nthI (bodyL t q n V n) j := fun j hj => nth_app1 (by omega)
  have h0 := nth_app2 (l := bodyL t q n V n) (m := [sumL (bodyL t q n V n) / 256, sumL (bodyL t q n V n) % 256]) (j := 0)
  have h1 := nth_app2 (l := bodyL t q n V n) (m := [sumL (bodyL t q n V n) / 256, sumL (bodyL t q n V n) % 256]) (j := 1)
  rw [hl] at h0 h1
  refine ⟨(lo 0 (by omega)).trans p0, (lo 1 (by omega)).trans p1, (lo 2 (by omega)).trans p2, (lo 3 (by omega)).trans p3, (lo 4 (by omega)).trans p4, fun j hj => ?_, ?_, h0, ?_⟩
  · obtain ⟨v0, v1⟩ := nth_value t q n V n j hj
    exact ⟨(lo _ (by omega)).trans v0, (lo _ (by omega)).trans v1⟩
  · unfold sumL
    rw [hl, crcN_congr (5 + 2 * n) lo]
  · rw [show 6 + 2 * n = 5 + 2 * n + 1 by omega]
    exact h1
theorem whole_byt {t q : Int} {n : Nat} {V : Nat → Int} (h : frameB t q n V = true) : ∀ j, j < 7 + 2 * n → 0 ≤ nthI (wholeL t q n V) j ∧ nthI (wholeL t q n V) j < 256 := by
  obtain ⟨ht, hq, hn, hV⟩ := frame_parts h
  have hb := bodyL_byt n ht hq hn hV
  have hs := sumL_lt hb
  have : ∀ x ∈ wholeL t q n V, Byt x := by
    intro x hx
    unfold wholeL at hx
    rw [List.mem_append] at hx
    rcases hx with hx | hx
    · exact hb x hx
    · simp only [List.mem_cons, List.not_mem_nil, or_false] at hx
      unfold Byt
      rcases hx with rfl | rfl <;> omega
  intro j hj
  exact nth_byt this j (by rw [wholeL_len]; omega)
theorem whole_reads {t q : Int} {n : Nat} {V : Nat → Int} (h : frameB t q n V = true) : faultV (7 + 2 * n) (nthI (wholeL t q n V)) = 0 ∧ rdN (7 + 2 * n) (nthI (wholeL t q n V)) = n ∧ rdT (7 + 2 * n) (nthI (wholeL t q n V)) = t ∧ rdQ (7 + 2 * n) (nthI (wholeL t q n V)) = q ∧ ∀ j, j < n → rdU (nthI (wholeL t q n V)) j = V j := by
  obtain ⟨ht, hq, hn, hV⟩ := frame_parts h
  obtain ⟨y0, y1, y2, y3, y4, yv, yc, y5, y6⟩ := whole_parts h
  have hs := sumL_lt (bodyL_byt n ht hq hn hV)
  have e2 : 7 + 2 * n - 2 = 5 + 2 * n := by omega
  have e6 : 5 + 2 * n + 1 = 6 + 2 * n := by omega
  have hf : faultV (7 + 2 * n) (nthI (wholeL t q n V)) = 0 := by
    refine fault0 (by omega) y0 (by rw [y4]; omega) ?_ (by rw [y1]; omega)
    rw [e2, yc]
    unfold numV
    rw [e6, y5, y6]
    omega
  obtain ⟨r0, r1, r2⟩ := rd_yes hf
  refine ⟨hf, by rw [r0, y4, Int.toNat_natCast], by rw [r1, y1], ?_, fun j hj => ?_⟩
  · rw [r2]
    unfold numV
    rw [y2, show (2 + 1 : Nat) = 3 from rfl, y3]
    omega
  · unfold rdU numV
    obtain ⟨v0, v1⟩ := yv j hj
    have := hV j hj
    rw [v0, v1]
    omega
theorem fault_sum {n : Nat} {V : Nat → Int} (h : faultV n V = 0) : (crcN V (n - 2) : Int) = numV V (n - 2) := by
  by_cases h7 : n < 7
  · rw [fault1 h7] at h; omega
  · by_cases h0 : V 0 = 165
    · by_cases h1 : 20 < V 4 ∨ (n : Int) ≠ 7 + 2 * V 4
      · rw [fault3 h7 h0 h1] at h; omega
      · by_cases h2 : (crcN V (n - 2) : Int) = numV V (n - 2)
        · exact h2
        · rw [fault4 h7 h0 h1 h2] at h; omega
    · rw [fault2 h7 h0] at h; omega
theorem whole_flips {t q : Int} {n : Nat} {V : Nat → Int} (h : frameB t q n V = true) {i k : Nat} (hi : i < 7 + 2 * n) (hk : k < 8) : faultV (7 + 2 * n) (flipV (nthI (wholeL t q n V)) i k) ≠ 0 := by
  obtain ⟨ht, hq, hn, hV⟩ := frame_parts h
  obtain ⟨y0, y1, y2, y3, y4, yv, yc, y5, y6⟩ := whole_parts h
  have hb := whole_byt h
  have hs := sumL_lt (bodyL_byt n ht hq hn hV)
  have e2 : 7 + 2 * n - 2 = 5 + 2 * n := by omega
  have e6 : 5 + 2 * n + 1 = 6 + 2 * n := by omega
  intro hf
  have hx : ∀ a : Nat, a ^^^ 2 ^ k ≠ a := fun a e => by
    have h2 := congrArg (fun z => a ^^^ z) e
    simp only [xcc, Nat.xor_self] at h2
    exact absurd h2 (Nat.ne_of_gt (Nat.two_pow_pos k))
  have hc := fault_sum hf
  rw [e2] at hc
  unfold numV at hc
  rw [e6] at hc
  have hsum : nthI (wholeL t q n V) (5 + 2 * n) * 256 + nthI (wholeL t q n V) (6 + 2 * n) = (crcN (nthI (wholeL t q n V)) (5 + 2 * n) : Int) := by rw [y5, y6, yc]; omega
  by_cases lo : i < 5 + 2 * n
  · rw [flipV_ne (by omega), flipV_ne (by omega), hsum] at hc
    obtain ⟨D, d1, d2, d3⟩ := crcN_flip (V := nthI (wholeL t q n V)) (i := i) hk (5 + 2 * n) lo (fun j hj => hb j (by omega))
    rw [d3] at hc
    have hc2 : crcN (nthI (wholeL t q n V)) (5 + 2 * n) ^^^ D = crcN (nthI (wholeL t q n V)) (5 + 2 * n) := Int.ofNat.inj hc
    have h2 := congrArg (fun z => crcN (nthI (wholeL t q n V)) (5 + 2 * n) ^^^ z) hc2
    simp only [xcc, Nat.xor_self] at h2
    exact d2 h2
  · rw [crcN_congr (U := nthI (wholeL t q n V)) (5 + 2 * n) (fun j hj => flipV_ne (by omega)), ← hsum] at hc
    have b5 := hb (5 + 2 * n) (by omega)
    have b6 := hb (6 + 2 * n) (by omega)
    by_cases e : i = 5 + 2 * n
    · subst e
      rw [flipV_at, flipV_ne (j := 6 + 2 * n) (by omega)] at hc
      have := hx (nthI (wholeL t q n V) (5 + 2 * n)).toNat
      omega
    · obtain rfl : i = 6 + 2 * n := by omega
      rw [flipV_at, flipV_ne (j := 5 + 2 * n) (by omega)] at hc
      have := hx (nthI (wholeL t q n V) (6 + 2 * n)).toNat
      omega
end Go.Proofs.Ytlmbnjeophninaa
