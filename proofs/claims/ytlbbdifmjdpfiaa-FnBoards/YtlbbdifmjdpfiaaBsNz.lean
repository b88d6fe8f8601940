/-
What is proved: what a scan makes of a board, in numbers.
-/
import Derived.Test.YtlbbdifmjdpfiaaBdSz
import Derived.Test.YtlbbdifmjdpfiaaAllInz
namespace Go.Proofs.Ytlbbdifmjdpfiaa
set_option maxRecDepth 40000
open Go.ChangeShapes Go.WideShapes Go.ChangeAt Go.RowKit
set_option linter.unusedVariables false
set_option linter.unusedSimpArgs false

def upd (V : Nat → Int × Int × Int × Bool × Int) (j : Nat) (z : Int × Int × Int × Bool × Int) : Nat → Int × Int × Int × Bool × Int := fun i => if i = j then z else V i
theorem upd_at (V : Nat → Int × Int × Int × Bool × Int) (j : Nat) (z : Int × Int × Int × Bool × Int) : upd V j z j = z := by simp [upd]
theorem upd_off (V : Nat → Int × Int × Int × Bool × Int) {j i : Nat} (z : Int × Int × Int × Bool × Int) (h : i ≠ j) : upd V j z i = V i := by simp [upd, h]
def toF (z : Int × Int × Int × Bool × Int) (u : Int) : Int × Int × Int × Bool × Int := (z.1, z.2.1, z.2.2.1, z.2.2.2.1, u)
def seenF (z : Int × Int × Int × Bool × Int) : Int × Int × Int × Bool × Int := if z.2.2.1 = 1 then (z.1, z.2.1, 2, z.2.2.2.1, z.2.2.2.2) else if z.2.2.1 = 3 then (z.1, z.2.1, 0, false, z.2.2.2.2) else z
def heaB (z : Int × Int × Int × Bool × Int) (th : Bool) (mo x : Int) : Bool := th && ((bits BinOp.and IntKind.i64 (z.2.1 / 2 ^ mo.toNat) 1 == 0) && decide (z.2.2.2.2 < x))
def aloB (V : Nat → Int × Int × Int × Bool × Int) (n : Nat) (g : Int) : Bool := decide (∀ j, j < n → ¬ ((V j).1 = g ∧ (V j).2.2.1 ≠ 0))
def lisF (z : Int × Int × Int × Bool × Int) (h alo : Bool) : Int × Int × Int × Bool × Int := if h = true then (if z.2.2.1 = 0 then (z.1, z.2.1, 1, alo, z.2.2.2.2) else if z.2.2.1 = 3 then (z.1, z.2.1, 1, z.2.2.2.1, z.2.2.2.2) else z) else (if z.2.2.1 = 1 then (z.1, z.2.1, 3, z.2.2.2.1, z.2.2.2.2) else if z.2.2.1 = 2 then (z.1, z.2.1, 0, false, z.2.2.2.2) else z)
def telB (z : Int × Int × Int × Bool × Int) (h : Bool) : Bool := h && (decide (z.2.2.1 = 0) || decide (z.2.2.1 = 3))
def shV (x : Int) (V : Nat → Int × Int × Int × Bool × Int) (Sh : Nat → Int × Int) : Nat → Nat → Int × Int × Int × Bool × Int
  | 0 => V
  | k + 1 => upd (shV x V Sh k) (Sh k).1.toNat (toF (shV x V Sh k (Sh k).1.toNat) (x + (Sh k).2))
def seV (V : Nat → Int × Int × Int × Bool × Int) (Se : Nat → Int) : Nat → Nat → Int × Int × Int × Bool × Int
  | 0 => V
  | k + 1 => upd (seV V Se k) (Se k).toNat (seenF (seV V Se k (Se k).toNat))
def liV (V : Nat → Int × Int × Int × Bool × Int) (n : Nat) (Th : Nat → Bool) (mo x : Int) : Nat → Nat → Int × Int × Int × Bool × Int
  | 0 => V
  | k + 1 => upd (liV V n Th mo x k) k (lisF (liV V n Th mo x k k) (heaB (liV V n Th mo x k k) (Th k) mo x) (aloB (liV V n Th mo x k) n (liV V n Th mo x k k).1))
def liL (V : Nat → Int × Int × Int × Bool × Int) (n : Nat) (Th : Nat → Bool) (mo x : Int) : Nat → List Int
  | 0 => []
  | k + 1 => if telB (liV V n Th mo x k k) (heaB (liV V n Th mo x k k) (Th k) mo x) = true then liL V n Th mo x k ++ [(k : Int)] else liL V n Th mo x k
theorem liL_le (V : Nat → Int × Int × Int × Bool × Int) (n : Nat) (Th : Nat → Bool) (mo x : Int) (k : Nat) : (liL V n Th mo x k).length ≤ k := by
  induction k with
  | zero => simp [liL]
  | succ k ih =>
    simp only [liL]
    split
    · simp; omega
    · omega
def shfB (n : Nat) (z : Int × Int) : Bool := inB 0 ((n : Int) - 1) z.1 && inB 1 1000 z.2
def shsB (n : Nat) (m : Nat) (Sh : Nat → Int × Int) : Bool := decide (m ≤ 60) && decide (∀ j, j < m → shfB n (Sh j) = true)
def scnB (n : Nat) (mo : Int) (nt : Nat) (ns : Nat) (Se : Nat → Int) (nh : Nat) (Sh : Nat → Int × Int) : Bool := inB 0 7 mo && (decide (nt = n) && (decide (ns ≤ 60) && (allInB 0 ((n : Int) - 1) Se ns && shsB n nh Sh)))
def stpB (x : Int) (n : Nat) (V : Nat → Int × Int × Int × Bool × Int) (mo : Int) (nt : Nat) (ns : Nat) (Se : Nat → Int) (nh : Nat) (Sh : Nat → Int × Int) : Bool := boardB x n V && (scnB n mo nt ns Se nh Sh && !decide (x = 1000000000))
/-- What is kept: the Off of each within bounds, no quiet one with First. -/
def tidy (n : Nat) (V : Nat → Int × Int × Int × Bool × Int) : Prop := ∀ j, j < n → (0 ≤ (V j).2.1 ∧ (V j).2.1 ≤ 255) ∧ ((V j).2.2.1 = 0 → (V j).2.2.2.1 = false) ∧ (0 ≤ (V j).2.2.1 ∧ (V j).2.2.1 ≤ 3)
theorem tidy_upd {n : Nat} {V : Nat → Int × Int × Int × Bool × Int} (h : tidy n V) (j : Nat) (z : Int × Int × Int × Bool × Int) (hz : (0 ≤ z.2.1 ∧ z.2.1 ≤ 255) ∧ (z.2.2.1 = 0 → z.2.2.2.1 = false) ∧ (0 ≤ z.2.2.1 ∧ z.2.2.1 ≤ 3)) : tidy n (upd V j z) := fun i hi => by
  by_cases e : i = j
  · subst e; rw [upd_at]; exact hz
  · rw [upd_off V z e]; exact h i hi
theorem tidy_board {x : Int} {n : Nat} {V : Nat → Int × Int × Int × Bool × Int} (h : boardB x n V = true) : tidy n V := fun j hj => by
  obtain ⟨-, -, h3⟩ := board_yes h
  have := alm_yes (G := (V j).1) (O := (V j).2.1) (T := (V j).2.2.1) (F := (V j).2.2.2.1) (U := (V j).2.2.2.2) (ok_at h3 hj)
  exact ⟨this.2.1, this.2.2.2.2, this.2.2.1⟩
theorem tidy_sh {x : Int} {n : Nat} {V : Nat → Int × Int × Int × Bool × Int} {Sh : Nat → Int × Int} (h : tidy n V) (k : Nat) (hs : ∀ j, j < k → (Sh j).1.toNat < n) : tidy n (shV x V Sh k) := by
  induction k with
  | zero => exact h
  | succ k ih =>
    have h1 := ih (fun j hj => hs j (by omega))
    exact tidy_upd h1 _ _ (h1 _ (hs k (by omega)))
theorem seen_tidy {z : Int × Int × Int × Bool × Int} (h : (0 ≤ z.2.1 ∧ z.2.1 ≤ 255) ∧ (z.2.2.1 = 0 → z.2.2.2.1 = false) ∧ (0 ≤ z.2.2.1 ∧ z.2.2.1 ≤ 3)) : (0 ≤ (seenF z).2.1 ∧ (seenF z).2.1 ≤ 255) ∧ ((seenF z).2.2.1 = 0 → (seenF z).2.2.2.1 = false) ∧ (0 ≤ (seenF z).2.2.1 ∧ (seenF z).2.2.1 ≤ 3) := by
  unfold seenF
  split
  · exact ⟨h.1, fun e => by simp at e, by simp⟩
  · split
    · exact ⟨h.1, fun _ => rfl, by simp⟩
    · exact h
theorem lis_tidy {z : Int × Int × Int × Bool × Int} {a b : Bool} (h : (0 ≤ z.2.1 ∧ z.2.1 ≤ 255) ∧ (z.2.2.1 = 0 → z.2.2.2.1 = false) ∧ (0 ≤ z.2.2.1 ∧ z.2.2.1 ≤ 3)) : (0 ≤ (lisF z a b).2.1 ∧ (lisF z a b).2.1 ≤ 255) ∧ ((lisF z a b).2.2.1 = 0 → (lisF z a b).2.2.2.1 = false) ∧ (0 ≤ (lisF z a b).2.2.1 ∧ (lisF z a b).2.2.1 ≤ 3) := by
  unfold lisF
  split
  · split
    · exact ⟨h.1, fun e => by simp at e, by simp⟩
    · split
      · exact ⟨h.1, fun e => by simp at e, by simp⟩
      · exact h
  · split
    · exact ⟨h.1, fun e => by simp at e, by simp⟩
    · split
      · exact ⟨h.1, fun _ => rfl, by simp⟩
      · exact h
theorem tidy_se {n : Nat} {V : Nat → Int × Int × Int × Bool × Int} {Se : Nat → Int} (h : tidy n V) (k : Nat) (hs : ∀ j, j < k → (Se j).toNat < n) : tidy n (seV V Se k) := by
  induction k with
  | zero => exact h
  | succ k ih =>
    have h1 := ih (fun j hj => hs j (by omega))
    exact tidy_upd h1 _ _ (seen_tidy (h1 _ (hs k (by omega))))
theorem tidy_li {n : Nat} {V : Nat → Int × Int × Int × Bool × Int} {Th : Nat → Bool} {mo x : Int} (h : tidy n V) (k : Nat) (hk : k ≤ n) : tidy n (liV V n Th mo x k) := by
  induction k with
  | zero => exact h
  | succ k ih =>
    have h1 := ih (by omega)
    exact tidy_upd h1 _ _ (lis_tidy (h1 k (by omega)))
/-- A quiet one that comes is the first just when nobody of its group is awake; one that is gone never is. -/
theorem come_is {n k : Nat} {V : Nat → Int × Int × Int × Bool × Int} {G O T U : Int} {F : Bool} (hk : k < n) (hV : V k = (G, O, T, F, U)) (ht : tidy n V) (hT : T = 0 ∨ T = 3) : (G, O, (1 : Int), F || aloB V n G, U) = lisF (G, O, T, F, U) true (aloB V n G) := by
  rcases hT with rfl | rfl
  · have hf : F = false := by have := (ht k hk).2.1; rw [hV] at this; exact this rfl
    rw [hf]
    simp [lisF]
  · have ha : aloB V n G = false := decide_eq_false fun h => h k hk (by rw [hV]; exact ⟨rfl, by simp⟩)
    rw [ha]
    simp [lisF]
theorem lis_no {z : Int × Int × Int × Bool × Int} {a b : Bool} : lisF z false a = lisF z false b := by simp [lisF]
theorem upd_same {V : Nat → Int × Int × Int × Bool × Int} {j : Nat} {z : Int × Int × Int × Bool × Int} (h : V j = z) : upd V j z = V := by
  funext i
  by_cases e : i = j
  · subst e; rw [upd_at, h]
  · rw [upd_off V z e]
end Go.Proofs.Ytlbbdifmjdpfiaa
