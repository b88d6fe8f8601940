/-
What is proved: what Filter answers over floats that are small whole numbers, in whole numbers; it is linear.
-/
import Derived.Test.YtebbkcbpecpolaaExF
import Derived.Test.YtebbkcbpecpolaaTap
import Derived.Test.YtebbkcbpecpolaaF64M
namespace Go.Proofs.Ytebbkcbpecpolaa
set_option maxRecDepth 40000
open Go.ChangeShapes Go.WideShapes Go.ChangeAt Go.RowKit
set_option linter.unusedVariables false
set_option linter.unusedSimpArgs false

def tapI (a x : Nat → Int) (m : Nat) : Nat → Int
  | 0 => 0
  | k + 1 => tapI a x m k + a k * x (m - 1 - k)
def outI (a : Nat → Int) (d : Int) (x : Nat → Int) : Nat → Int
  | 0 => tapI a x 1 (min 3 1)
  | k + 1 => tapI a x (k + 2) (min 3 (k + 2)) - d * outI a d x k
theorem tapI_add (a x y z : Nat → Int) (m : Nat) (h : ∀ j, j < m → z j = x j + y j) : ∀ k, k ≤ m → tapI a z m k = tapI a x m k + tapI a y m k
  | 0, _ => rfl
  | k + 1, hk => by
    unfold tapI
    rw [tapI_add a x y z m h k (by omega), h (m - 1 - k) (by omega), Int.mul_add]
    omega
theorem outI_add (a : Nat → Int) (d : Int) (x y z : Nat → Int) : ∀ k, (∀ j, j < k + 1 → z j = x j + y j) → outI a d z k = outI a d x k + outI a d y k
  | 0, h => tapI_add a x y z 1 h _ (Nat.min_le_right _ _)
  | k + 1, h => by
    unfold outI
    rw [tapI_add a x y z (k + 2) h _ (Nat.min_le_right _ _), outI_add a d x y z k (fun j hj => h j (by omega)), Int.mul_add]
    omega
theorem mul_small {a x : Int} (ha : -4 ≤ a ∧ a ≤ 4) (hx : -256 ≤ x ∧ x ≤ 256) : -1024 ≤ a * x ∧ a * x ≤ 1024 := by
  rcases (by omega : a = -4 ∨ a = -3 ∨ a = -2 ∨ a = -1 ∨ a = 0 ∨ a = 1 ∨ a = 2 ∨ a = 3 ∨ a = 4) with rfl | rfl | rfl | rfl | rfl | rfl | rfl | rfl | rfl <;> omega
theorem mul_unit {d x B : Int} (hd : d = -1 ∨ d = 0 ∨ d = 1) (hx : -B ≤ x ∧ x ≤ B) : -B ≤ d * x ∧ d * x ≤ B := by
  rcases hd with rfl | rfl | rfl <;> omega
theorem tapI_in {a x : Nat → Int} {m : Nat} (ha : ∀ j, j < 3 → -4 ≤ a j ∧ a j ≤ 4) (hx : ∀ j, j < m → -256 ≤ x j ∧ x j ≤ 256) : ∀ k : Nat, k ≤ 3 → k ≤ m → -(1024 * (k : Int)) ≤ tapI a x m k ∧ tapI a x m k ≤ 1024 * (k : Int)
  | 0, _, _ => by unfold tapI; omega
  | k + 1, h3, hm => by
    have h1 := tapI_in ha hx k (by omega) (by omega)
    have h2 := mul_small (ha k (by omega)) (hx (m - 1 - k) (by omega))
    unfold tapI
    omega
theorem tap_wn {E : Nat} (hE : E = 1074) {T X : Nat → Option Nat} {a x : Nat → Int} {m K : Nat} (hT : ∀ j, j < K → ∃ t, T j = some t ∧ WN E t (a j)) (hX : ∀ j, j < m → ∃ t, X j = some t ∧ WN E t (x j)) (hp : ∀ j i, j < K → i < m → (a j * x i).natAbs < 9007199254740992) (hs : ∀ j, j ≤ K → (tapI a x m j).natAbs < 9007199254740992) : ∀ k, k ≤ K → k ≤ m → ∃ r, tapU T X m k = some r ∧ WN E r (tapI a x m k)
  | 0, _, _ => ⟨0, rfl, wn_zero E⟩
  | k + 1, hk, hm => by
    obtain ⟨r, e, hr⟩ := tap_wn hE hT hX hp hs k (by omega) (by omega)
    obtain ⟨t, et, ht⟩ := hT k (by omega)
    obtain ⟨u, eu, hu⟩ := hX (m - 1 - k) (by omega)
    obtain ⟨p, ep, hp'⟩ := wn_mul hE ht hu (hp k (m - 1 - k) (by omega) (by omega))
    obtain ⟨q, eq, hq⟩ := wn_add hE hr hp' (hs (k + 1) hk)
    refine ⟨q, ?_, hq⟩
    unfold tapU
    rw [e, et, eu]
    show opO .add (some r) (fRun .mul t u) = some q
    rw [ep]
    exact eq
theorem out_wn {E : Nat} (hE : E = 1074) {N D L : Nat → Option Nat} {a x : Nat → Int} {d : Int} (hN : ∀ j, j < 3 → ∃ t, N j = some t ∧ WN E t (a j)) (hL : ∀ j, j < 8 → ∃ t, L j = some t ∧ WN E t (x j)) (h0 : D 0 = some ONE) (h1 : ∃ t, D 1 = some t ∧ WN E t d) (ha : ∀ j, j < 3 → -4 ≤ a j ∧ a j ≤ 4) (hx : ∀ j, j < 8 → -256 ≤ x j ∧ x j ≤ 256) (hd : d = -1 ∨ d = 0 ∨ d = 1) : ∀ k : Nat, k < 8 → ∃ r, outF N D L 3 2 k = some r ∧ WN E r (outI a d x k) ∧ -(3072 * ((k : Int) + 1)) ≤ outI a d x k ∧ outI a d x k ≤ 3072 * ((k : Int) + 1) := by
  have first : ∀ k : Nat, k < 8 → (∃ r, tapU N L (k + 1) (min 3 (k + 1)) = some r ∧ WN E r (tapI a x (k + 1) (min 3 (k + 1)))) ∧ -3072 ≤ tapI a x (k + 1) (min 3 (k + 1)) ∧ tapI a x (k + 1) (min 3 (k + 1)) ≤ 3072 := fun k hk => by
    have b := tapI_in (m := k + 1) ha (fun j hj => hx j (by omega)) (min 3 (k + 1)) (Nat.min_le_left _ _) (Nat.min_le_right _ _)
    refine ⟨tap_wn hE (K := min 3 (k + 1)) (fun j hj => hN j (by omega)) (fun j hj => hL j (by omega)) (fun j i hj hi => ?_) (fun j hj => ?_) _ (Nat.le_refl _) (Nat.min_le_right _ _), by omega⟩
    · have := mul_small (ha j (by omega)) (hx i (by omega))
      omega
    · have := tapI_in (m := k + 1) ha (fun j hj => hx j (by omega)) j (by omega) (by omega)
      omega
  have one : ∀ (c : Nat) (v : Int), WN E c v → opO .quo (some c) (D 0) = some c := fun c v hc => by
    rw [h0]
    exact quo_one hc.1 hc.2.1
  intro k
  induction k with
  | zero =>
    intro _
    obtain ⟨⟨r, er, hr⟩, b⟩ := first 0 (by omega)
    obtain ⟨q, eq, hq⟩ := wn_sub hE hr (wn_zero E) (by omega)
    rw [Int.sub_zero] at hq
    refine ⟨q, ?_, hq, ?_⟩
    · rw [outF_eq]
      unfold filV
      rw [er]
      show opO .quo (fRun .sub r 0) (D 0) = some q
      rw [eq]
      exact one q _ hq
    · have b' : -3072 ≤ outI a d x 0 ∧ outI a d x 0 ≤ 3072 := b
      omega
  | succ k ih =>
    intro hk
    obtain ⟨p, ep, hp, pb⟩ := ih (by omega)
    obtain ⟨⟨r, er, hr⟩, b⟩ := first (k + 1) hk
    obtain ⟨t, et, ht⟩ := h1
    have mb := mul_unit (B := 3072 * ((k : Int) + 1)) hd pb
    obtain ⟨m, em, hm⟩ := wn_mul hE ht hp (by omega)
    obtain ⟨z, ez, hz⟩ := wn_add hE (wn_zero E) hm (by omega)
    rw [Int.zero_add] at hz
    obtain ⟨q, eq, hq⟩ := wn_sub hE hr hz (by omega)
    refine ⟨q, ?_, hq, ?_⟩
    · rw [outF_eq]
      unfold filV
      have mn : min (2 - 1) (k + 1) = 1 := by omega
      rw [er, mn]
      have tu : tapU (fun j => D (j + 1)) (outF N D L 3 2) (k + 1) 1 = some z := by
        unfold tapU tapU
        have kk : k + 1 - 1 - 0 = k := by omega
        rw [kk, ep]
        show opO .add (some 0) (opO .mul (D 1) (some p)) = some z
        rw [et]
        show opO .add (some 0) (fRun .mul t p) = some z
        rw [em]
        exact ez
      rw [tu]
      show opO .quo (fRun .sub r z) (D 0) = some q
      rw [eq]
      exact one q _ hq
    · have e : outI a d x (k + 1) = tapI a x (k + 1 + 1) (min 3 (k + 1 + 1)) - d * outI a d x k := rfl
      rw [e]
      omega
/-- The three answers add up. -/
theorem fil_add {N D A B C : Nat → Option Nat} {a x y z : Nat → Int} {d : Int} (hN : ∀ j, j < 3 → N j = some (itf (a j))) (hA : ∀ j, j < 8 → A j = some (itf (x j))) (hB : ∀ j, j < 8 → B j = some (itf (y j))) (hC : ∀ j, j < 8 → C j = some (itf (z j))) (h0 : D 0 = some ONE) (h1 : D 1 = some (itf d)) (ha : ∀ j, j < 3 → -4 ≤ a j ∧ a j ≤ 4) (hx : ∀ j, j < 8 → -128 ≤ x j ∧ x j ≤ 127) (hy : ∀ j, j < 8 → -128 ≤ y j ∧ y j ≤ 127) (hz : ∀ j, j < 8 → z j = x j + y j) (hd : d = -1 ∨ d = 0 ∨ d = 1) (k : Nat) (hk : k < 8) :
    ∃ p q r s, outF N D A 3 2 k = some p ∧ outF N D B 3 2 k = some q ∧ outF N D C 3 2 k = some r ∧ fRun .add p q = some s ∧ FloatKind.f64.format.order s r = some .eq := by
  obtain ⟨E, hE⟩ : ∃ E, E = 1074 := ⟨_, rfl⟩
  have small : ∀ v : Int, -256 ≤ v → v ≤ 256 → WN E (itf v) v := fun v h1 h2 => wn_of hE (by omega)
  have n' : ∀ j, j < 3 → ∃ t, N j = some t ∧ WN E t (a j) := fun j hj => ⟨_, hN j hj, small _ (by have := ha j hj; omega) (by have := ha j hj; omega)⟩
  have d' : ∃ t, D 1 = some t ∧ WN E t d := ⟨_, h1, small _ (by omega) (by omega)⟩
  obtain ⟨p, ep, hp, bp⟩ := out_wn hE n' (fun j hj => ⟨_, hA j hj, small _ (by have := hx j hj; omega) (by have := hx j hj; omega)⟩) h0 d' ha (fun j hj => by have := hx j hj; omega) hd k hk
  obtain ⟨q, eq, hq, bq⟩ := out_wn hE n' (fun j hj => ⟨_, hB j hj, small _ (by have := hy j hj; omega) (by have := hy j hj; omega)⟩) h0 d' ha (fun j hj => by have := hy j hj; omega) hd k hk
  obtain ⟨r, er, hr, br⟩ := out_wn hE n' (fun j hj => ⟨_, hC j hj, small _ (by have := hz j hj; have := hx j hj; have := hy j hj; omega) (by have := hz j hj; have := hx j hj; have := hy j hj; omega)⟩) h0 d' ha (fun j hj => by have := hz j hj; have := hx j hj; have := hy j hj; omega) hd k hk
  obtain ⟨s, es, hs⟩ := wn_add hE hp hq (by omega)
  rw [← outI_add a d x y z k (fun j hj => hz j (by omega))] at hs
  exact ⟨p, q, r, s, ep, eq, er, es, wn_eq hs hr⟩
end Go.Proofs.Ytebbkcbpecpolaa
