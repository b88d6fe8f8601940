/-
What is proved: what is fresh of a link, as both packages tell it.
-/
import Derived.Test.YtkocbklkiehdiaaLkQ
import Derived.Test.YtkocbklkiehdiaaLkCo
import Derived.Test.YtkocbklkiehdiaaLkT
import Derived.Test.YtkocbklkiehdiaaHe
namespace Go.Proofs.Ytkocbklkiehdiaa
set_option maxRecDepth 40000
open Go.RowKit
set_option linter.unusedVariables false
set_option linter.unusedSimpArgs false

def frB (t : Int) (h : Bool) (q a l : Int) (n : Nat) (V : Nat → Int) (most : Int) : Bool := linkB t h q a l n V && (h && decide (a ≤ most))
def frN (t : Int) (h : Bool) (q a l : Int) (n : Nat) (V : Nat → Int) (most : Int) : Nat := if frB t h q a l n V most = true then n else 0
theorem frN_le (t : Int) (h : Bool) (q a l : Int) (n : Nat) (V : Nat → Int) (most : Int) : frN t h q a l n V most ≤ n := by unfold frN; split <;> omega
theorem field_held (t : Int) (h : Bool) (q a l : Int) (s : Option Addr) (n c : Nat) (w : World) : (Instr.field 26 (.agg #[.int .i64 t, .bool h, .int .i64 q, .int .i64 a, .int .i64 l, .slice s n c]) 5).run Try.prog w = .ok (.slice s n c) w := by kernel_rfl
set_option maxHeartbeats 4000000 in
theorem implFreshO (t : Int) (h : Bool) (q a l : Int) (ad : Option Addr) (n c : Nat) (V : Nat → Int) (most : Int) (w : World) (hn : (n : Int) ≤ 1048576) (HR : Hid (RowI w ad n V)) :
    Calls Try.prog 13 #[.agg #[.int .i64 t, .bool h, .int .i64 q, .int .i64 a, .int .i64 l, .slice ad n c], .int .i64 most] w fun e w' => ∃ s' c', e = .returned (.tuple #[.slice s' (frN t h q a l n V most) c', .bool (frB t h q a l n V most)]) ∧ OwnI w.heap.size w' s' (frN t h q a l n V most) V ∧ Below w.heap.size w w' := by
  go_enter Try.func13, Try.ntmps13
  go_wp2_with fail
  refine (linkRight_any t h q a l ad n c V _ hn (row_1 HR.out)).mono ?_
  rintro e w1 ⟨rfl, h1⟩
  obtain ⟨hc, hf⟩ := bcell h1
  have q0 := hc w.heap.size 0 (by first | omega | (simp; done) | (simp; omega))
  have q1 := hc w.heap.size 1 (by first | omega | (simp; done) | (simp; omega))
  have q2 := hc w.heap.size 2 (by first | omega | (simp; done) | (simp; omega))
  have q3 := hc w.heap.size 3 (by first | omega | (simp; done) | (simp; omega))
  have q4 := hc w.heap.size 4 (by first | omega | (simp; done) | (simp; omega))
  have q5 := hc w.heap.size 5 (by first | omega | (simp; done) | (simp; omega))
  simp [go_sem] at q0 q1 q2 q3 q4 q5
  have z1 : w.heap.size < w1.heap.size := by have := h1.size; simp at this; omega
  have B1 : Below w.heap.size w w1 := Below.trans (by repeat (first | with_reducible exact Below.refl _ _ | with_reducible refine Below.setCell ?_ (by first | omega | (simp; done) | (simp; omega)) _ | with_reducible refine bDrewN ?_ _ | with_reducible refine Below.drew ?_ | with_reducible refine Below.alloc ?_ (by first | omega | (simp; done) | (simp; omega)) _)) (h1.mono (by first | omega | (simp; done) | (simp; omega)))
  have R1 : Hid (RowI w1 ad n V) := HR.out.below B1
  have s1 := B1.size
  clear hc hf h1
  cases k0 : linkB t h q a l n V
  · have HN0 : frB t h q a l n V most = false := by unfold frB; simp [k0]
    have HN : Hid (frN t h q a l n V most = 0 ∧ frB t h q a l n V most = false) := (⟨by unfold frN; simp [HN0], HN0⟩ : frN t h q a l n V most = 0 ∧ frB t h q a l n V most = false)
    clear HN0
    go_wp2
    exact bodyPost_ret (v := .tuple #[.slice none 0 0, .bool false]) (by simp [results, Try.results13, go_sem]) rfl ⟨none, 0, by rw [HN.out.1, HN.out.2], by rw [HN.out.1]; exact fun j hj => by omega, (by repeat (first | with_reducible exact Below.refl _ _ | with_reducible exact B1 | with_reducible refine Below.setCell ?_ (by first | omega | (simp; done) | (simp; omega)) _ | with_reducible refine bDrewN ?_ _ | with_reducible refine Below.drew ?_ | with_reducible refine Below.alloc ?_ (by first | omega | (simp; done) | (simp; omega)) _))⟩
  cases h
  · have HN0 : frB t false q a l n V most = false := by unfold frB; simp [k0]
    have HN : Hid (frN t false q a l n V most = 0 ∧ frB t false q a l n V most = false) := (⟨by unfold frN; simp [HN0], HN0⟩ : frN t false q a l n V most = 0 ∧ frB t false q a l n V most = false)
    clear HN0
    go_wp2
    exact bodyPost_ret (v := .tuple #[.slice none 0 0, .bool false]) (by simp [results, Try.results13, go_sem]) rfl ⟨none, 0, by rw [HN.out.1, HN.out.2], by rw [HN.out.1]; exact fun j hj => by omega, (by repeat (first | with_reducible exact Below.refl _ _ | with_reducible exact B1 | with_reducible refine Below.setCell ?_ (by first | omega | (simp; done) | (simp; omega)) _ | with_reducible refine bDrewN ?_ _ | with_reducible refine Below.drew ?_ | with_reducible refine Below.alloc ?_ (by first | omega | (simp; done) | (simp; omega)) _))⟩
  by_cases k2 : a ≤ most
  case neg =>
    have HN0 : frB t true q a l n V most = false := by unfold frB; simp [k2]
    have HN : Hid (frN t true q a l n V most = 0 ∧ frB t true q a l n V most = false) := (⟨by unfold frN; simp [HN0], HN0⟩ : frN t true q a l n V most = 0 ∧ frB t true q a l n V most = false)
    clear HN0
    go_wp2
    exact bodyPost_ret (v := .tuple #[.slice none 0 0, .bool false]) (by simp [results, Try.results13, go_sem]) rfl ⟨none, 0, by rw [HN.out.1, HN.out.2], by rw [HN.out.1]; exact fun j hj => by omega, (by repeat (first | with_reducible exact Below.refl _ _ | with_reducible exact B1 | with_reducible refine Below.setCell ?_ (by first | omega | (simp; done) | (simp; omega)) _ | with_reducible refine bDrewN ?_ _ | with_reducible refine Below.drew ?_ | with_reducible refine Below.alloc ?_ (by first | omega | (simp; done) | (simp; omega)) _))⟩
  have HN0 : frB t true q a l n V most = true := by unfold frB; simp [k0, k2]
  have HN : Hid (frN t true q a l n V most = n ∧ frB t true q a l n V most = true) := (⟨by unfold frN; simp [HN0], HN0⟩ : frN t true q a l n V most = n ∧ frB t true q a l n V most = true)
  clear HN0
  go_wp2_with fail
  refine (clone_anyO ad n c V _ (by omega) R1.out).mono ?_
  rintro e w2 ⟨s2, c2, rfl, O2, h2⟩
  have fh := field_held t true q a l s2 n c2
  have B2 : Below w.heap.size w w2 := B1.trans (h2.mono s1)
  go_wp2
  exact bodyPost_ret (v := .tuple #[.slice s2 n c2, .bool true]) (by simp [results, Try.results13, go_sem]) rfl ⟨s2, c2, by rw [HN.out.1, HN.out.2], by rw [HN.out.1]; exact O2.mono s1, B2⟩


open Go.ChangeShapes Go.WideShapes Go.ChangeAt Go.RowKit
set_option linter.unusedVariables false
set_option linter.unusedSimpArgs false

theorem inB_set {lo hi n : Int} (h1 : lo ≤ n) (h2 : n ≤ hi) : inB lo hi n = true := decide_eq_true ⟨h1, h2⟩
theorem fault_is {n : Nat} {V : Nat → Int} (h : faultV n V = 0) : ¬ n < 7 ∧ V 4 ≤ 20 ∧ (n : Int) = 7 + 2 * V 4 := by
  have h7 : ¬ n < 7 := fun q => by rw [fault1 q] at h; omega
  have h0 : ¬ V 0 ≠ 165 := fun q => by rw [fault2 h7 q] at h; omega
  have h1 : ¬ (20 < V 4 ∨ (n : Int) ≠ 7 + 2 * V 4) := fun q => by rw [fault3 h7 (by omega) q] at h; omega
  exact ⟨h7, by omega, by omega⟩
theorem link_train {t : Int} {h : Bool} {q a l : Int} {n : Nat} {V : Nat → Int} (k : linkB t h q a l n V = true) : inB 1 4 t = true := by
  unfold linkB frameB at k
  simp only [Bool.and_eq_true] at k
  exact k.1.1
theorem far_self (q : Int) : farV q q = 0 := by unfold farV; omega
theorem once_nums {t : Int} {h : Bool} {q a l : Int} {n : Nat} {V : Nat → Int} {n2 : Nat} {V2 : Nat → Int} {x : HeT} (hx : heV t h q a l n V n2 V2 = x) (hC : x.C = 0) (hV : ∀ j, j < n2 → 0 ≤ V2 j ∧ V2 j < 256) :
    x.H = true ∧ x.A = 0 ∧ x.Q = rdQ n2 V2 ∧ x.m = rdN n2 V2 ∧ x.U = rdU V2 ∧ l ≤ x.L ∧ linkB x.T true x.Q 0 x.L x.m x.U = true ∧ (heV x.T true x.Q 0 x.L x.m x.U n2 V2).C = 7 ∧ frB x.T true x.Q 0 x.L x.m x.U 0 = true ∧ frB x.T true x.Q 4 x.L x.m x.U 3 = false := by
  subst hx
  cases k : linkB t h q a l n V
  · rw [he8 k] at hC; exact absurd hC (by show ¬ (8 : Int) = 0; decide)
  by_cases f : faultV n2 V2 = 0
  case neg => rw [heF k f] at hC; exact absurd hC f
  by_cases e : rdT n2 V2 = t
  case neg => rw [he6 k f e] at hC; exact absurd hC (by show ¬ (6 : Int) = 0; decide)
  by_cases g : h = true ∧ (farV (rdQ n2 V2) q = 0 ∨ 32767 < farV (rdQ n2 V2) q)
  case pos => rw [he7 k f e g] at hC; exact absurd hC (by show ¬ (7 : Int) = 0; decide)
  rw [he0 k f e g]
  obtain ⟨⟨q0, q1⟩, -, ⟨l0, l1⟩, hl, -⟩ := link_parts k
  have ht := link_train k
  obtain ⟨r0, r1⟩ := rdQ_lt hV
  obtain ⟨f7, f4, fn⟩ := fault_is f
  have hN : rdN n2 V2 = (V2 4).toNat := by unfold rdN; rw [if_pos f]
  have v4 := hV 4 (by omega)
  have hlo : l ≤ lostV h l (farV (rdQ n2 V2) q) ∧ 0 ≤ lostV h l (farV (rdQ n2 V2) q) ∧ lostV h l (farV (rdQ n2 V2) q) ≤ 1000000000 := by
    unfold lostV
    cases h
    · rw [if_neg (by decide), hl rfl]; omega
    · rw [if_pos rfl]
      have hf : 0 ≤ farV (rdQ n2 V2) q := by unfold farV; omega
      have hf1 : farV (rdQ n2 V2) q ≠ 0 := fun z => g ⟨rfl, .inl z⟩
      rw [Int.min_def]
      split <;> omega
  have hLk : ∀ A : Int, 0 ≤ A → A ≤ 100 → linkB t true (rdQ n2 V2) A (lostV h l (farV (rdQ n2 V2) q)) (rdN n2 V2) (rdU V2) = true := fun A a0 a1 => by
    unfold linkB frameB valsB allInB
    rw [ht, inB_set r0 r1, inB_set a0 a1, inB_set hlo.2.1 hlo.2.2, decide_eq_true (show ((rdN n2 V2 : Nat) : Int) ≤ 20 by rw [hN]; omega), decide_eq_true]
    · rfl
    · intro j hj
      rw [hN] at hj
      have h5 := hV (5 + 2 * j) (by omega)
      have h6 := hV (5 + 2 * j + 1) (by omega)
      unfold rdU numV
      omega
  have hL0 := hLk 0 (by decide) (by decide)
  refine ⟨rfl, rfl, rfl, rfl, rfl, hlo.1, hL0, ?_, ?_, ?_⟩
  · show (heV t true (rdQ n2 V2) 0 (lostV h l (farV (rdQ n2 V2) q)) (rdN n2 V2) (rdU V2) n2 V2).C = 7
    rw [he7 hL0 f e ⟨rfl, .inl (far_self _)⟩]
  · show frB t true (rdQ n2 V2) 0 (lostV h l (farV (rdQ n2 V2) q)) (rdN n2 V2) (rdU V2) 0 = true
    unfold frB
    rw [hL0]; rfl
  · show frB t true (rdQ n2 V2) 4 (lostV h l (farV (rdQ n2 V2) q)) (rdN n2 V2) (rdU V2) 3 = false
    unfold frB
    simp

end Go.Proofs.Ytkocbklkiehdiaa
