/-
What is proved: what each of the units gives so that it is just the load, in numbers.
-/
import Derived.Test.YtgekkblfnfclmaaUn
import Derived.Test.YtgekkblfnfclmaaOwnV
import Derived.Test.YtgekkblfnfclmaaOwnL
import Derived.Test.YtgekkblfnfclmaaI64R
namespace Go.Proofs.Ytgekkblfnfclmaa
set_option maxRecDepth 40000
open Go.RowKit
set_option linter.unusedVariables false

def prvV (V : Nat → Int) (f : Int) (j : Nat) : Int := if 0 < f then gvV V (f - 1) j else 0
def nV (V : Nat → Int) (f m : Int) (j : Nat) : Int := min m (gvV V f j - prvV V f j)
def mV (V : Nat → Int) (f m0 : Int) : Nat → Int
  | 0 => m0
  | j + 1 => mV V f m0 j - nV V f (mV V f m0 j) j
def shV (V : Nat → Int) (f m0 : Int) (j : Nat) : Int := gvV V f j - nV V f (mV V f m0 j) j
theorem prv_bd {V : Nat → Int} {j : Nat} {f : Int} (h : unitB V j = true) (f0 : 0 ≤ f) (f1 : f ≤ 1000000) : 0 ≤ prvV V f j ∧ prvV V f j ≤ gvV V f j := by
  unfold prvV
  have := gv_bd h f0 f1
  split
  · have a := gv_bd h (f := f - 1) (by omega) (by omega)
    have b := gv_le h (f := f - 1) (f' := f) (by omega)
    omega
  · omega
theorem n_bd {V : Nat → Int} {j : Nat} {f m : Int} (h : unitB V j = true) (f0 : 0 ≤ f) (f1 : f ≤ 1000000) (hm : 0 ≤ m) : 0 ≤ nV V f m j ∧ nV V f m j ≤ m ∧ nV V f m j ≤ gvV V f j := by
  have := prv_bd h f0 f1
  unfold nV
  omega
theorem m_bd {V : Nat → Int} {f m0 : Int} (f0 : 0 ≤ f) (f1 : f ≤ 1000000) (hm : 0 ≤ m0) : ∀ {k : Nat}, (∀ j, j < k → unitB V j = true) → 0 ≤ mV V f m0 k ∧ mV V f m0 k ≤ m0
  | 0, _ => by unfold mV; omega
  | k + 1, h => by
    have a := m_bd f0 f1 hm (k := k) fun j hj => h j (by omega)
    have b := n_bd (h k (by omega)) f0 f1 a.1
    unfold mV
    omega
theorem n_zero {V : Nat → Int} {j : Nat} {m : Int} (h : unitB V j = true) (hm : 0 ≤ m) : nV V 0 m j = 0 := by
  obtain ⟨a, b, c, d⟩ := unit_yes h
  have e : gvV V 0 j = 0 := by unfold gvV; rw [Int.mul_zero]; omega
  have p : prvV V 0 j = 0 := by unfold prvV; rw [if_neg (by omega)]
  unfold nV
  rw [e, p]
  omega
def SV (n : Nat) (V : Nat → Int) (load : Int) (m : Nat) (U : Nat → Int) : Prop := ∃ x, FV n V load x ∧ ((x = -1 ∧ m = 0) ∨ (0 ≤ x ∧ m = n)) ∧ U = shV V x (allV V x n - load)
theorem SV.one {n : Nat} {V : Nat → Int} {load : Int} {m m' : Nat} {U U' : Nat → Int} (h : SV n V load m U) (k : SV n V load m' U') : m = m' ∧ U = U' := by
  obtain ⟨x, a, b, rfl⟩ := h
  obtain ⟨y, c, d, rfl⟩ := k
  obtain rfl := a.one c
  refine ⟨?_, rfl⟩
  omega
theorem sv_some (n : Nat) (V : Nat → Int) (load : Int) : ∃ m U, SV n V load m U ∧ m ≤ n := by
  obtain ⟨x, h⟩ := fv_some n V load
  rcases h with ⟨h1, rfl⟩ | ⟨h1, h2⟩
  · exact ⟨0, _, ⟨-1, .inl ⟨h1, rfl⟩, .inl ⟨rfl, rfl⟩, rfl⟩, Nat.zero_le _⟩
  · exact ⟨n, _, ⟨x, .inr ⟨h1, h2⟩, .inr ⟨h2.1, rfl⟩, rfl⟩, Nat.le_refl _⟩
theorem own_below {w w' : World} {base : Nat} {e : TypeId} {size : Nat} {v : Value} {n : Nat} {xs : List Value} (h : w.ownsRow base e size v n xs) (hs : Below w.heap.size w w') : w'.ownsRow base e size v n xs :=
  own_same h fun g hg => hs.block g (h.lt g hg).2
end Go.Proofs.Ytgekkblfnfclmaa
