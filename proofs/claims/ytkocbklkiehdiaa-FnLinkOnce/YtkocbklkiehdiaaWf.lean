/-
What is proved: the bytes of a frame.
-/
import Derived.Test.YtkocbklkiehdiaaFmR
import Derived.Test.YtkocbklkiehdiaaCr
import Derived.Test.YtkocbklkiehdiaaByL
namespace Go.Proofs.Ytkocbklkiehdiaa
set_option maxRecDepth 40000
open Go.RowKit
set_option linter.unusedVariables false
set_option linter.unusedSimpArgs false

def pairL (V : Nat → Int) : Nat → List Int
  | 0 => []
  | k + 1 => pairL V k ++ [V k / 256, V k % 256]
def bodyL (t q : Int) (n : Nat) (V : Nat → Int) (k : Nat) : List Int := [165, t, q / 256, q % 256, (n : Int)] ++ pairL V k
def sumL (l : List Int) : Int := (crcN (nthI l) l.length : Nat)
def wholeL (t q : Int) (n : Nat) (V : Nat → Int) : List Int := bodyL t q n V n ++ [sumL (bodyL t q n V n) / 256, sumL (bodyL t q n V n) % 256]
def wrL (t q : Int) (n : Nat) (V : Nat → Int) : List Int := if frameB t q n V = true then wholeL t q n V else []
theorem pairL_len (V : Nat → Int) : ∀ k, (pairL V k).length = 2 * k
  | 0 => rfl
  | k + 1 => by rw [pairL, List.length_append, pairL_len V k]; simp; omega
theorem bodyL_len (t q : Int) (n : Nat) (V : Nat → Int) (k : Nat) : (bodyL t q n V k).length = 5 + 2 * k := by
  unfold bodyL; rw [List.length_append, pairL_len]; rfl
theorem bodyL_on (t q : Int) (n : Nat) (V : Nat → Int) (k : Nat) : bodyL t q n V k ++ [V k / 256, V k % 256] = bodyL t q n V (k + 1) := by
  unfold bodyL; rw [pairL, List.append_assoc]
theorem wholeL_len (t q : Int) (n : Nat) (V : Nat → Int) : (wholeL t q n V).length = 7 + 2 * n := by
  unfold wholeL; rw [List.length_append, bodyL_len]; simp; omega
theorem frame_parts {t q : Int} {n : Nat} {V : Nat → Int} (h : frameB t q n V = true) : (1 ≤ t ∧ t ≤ 4) ∧ (0 ≤ q ∧ q ≤ 65535) ∧ n ≤ 20 ∧ ∀ j, j < n → 0 ≤ V j ∧ V j ≤ 65535 := by
  unfold frameB valsB at h
  simp only [Bool.and_eq_true, decide_eq_true_eq] at h
  exact ⟨inB_yes h.1, inB_yes h.2.1, by have := h.2.2.1; omega, allIn_yes h.2.2.2.symm⟩
def Byt (x : Int) : Prop := 0 ≤ x ∧ x < 256
theorem pairL_byt {V : Nat → Int} : ∀ k, (∀ j, j < k → 0 ≤ V j ∧ V j ≤ 65535) → ∀ x ∈ pairL V k, Byt x
  | 0, _ => by simp [pairL]
  | k + 1, h => by
    intro x hx
    rw [pairL, List.mem_append] at hx
    have hk := h k (by omega)
    rcases hx with hx | hx
    · exact pairL_byt k (fun j hj => h j (by omega)) x hx
    · simp only [List.mem_cons, List.not_mem_nil, or_false] at hx
      rcases hx with rfl | rfl
      · unfold Byt; omega
      · unfold Byt; omega
theorem bodyL_byt {t q : Int} {n : Nat} {V : Nat → Int} (k : Nat) (ht : 1 ≤ t ∧ t ≤ 4) (hq : 0 ≤ q ∧ q ≤ 65535) (hn : n ≤ 20) (hV : ∀ j, j < k → 0 ≤ V j ∧ V j ≤ 65535) : ∀ x ∈ bodyL t q n V k, Byt x := by
  intro x hx
  unfold bodyL at hx
  rw [List.mem_append] at hx
  rcases hx with hx | hx
  · simp only [List.mem_cons, List.not_mem_nil, or_false] at hx
    unfold Byt
    rcases hx with rfl | rfl | rfl | rfl | rfl <;> omega
  · exact pairL_byt k hV x hx
theorem nth_byt {l : List Int} (h : ∀ x ∈ l, Byt x) : ∀ j, j < l.length → 0 ≤ nthI l j ∧ nthI l j < 256 := fun j hj => by
  have e : nthI l j = l[j] := by unfold nthI; simp [hj]
  rw [e]
  exact h _ (List.getElem_mem hj)
theorem sumL_lt {l : List Int} (h : ∀ x ∈ l, Byt x) : 0 ≤ sumL l ∧ sumL l ≤ 65535 := by
  have := crcN_lt l.length (nth_byt h)
  unfold sumL
  omega
theorem madeY_row {base : Nat} {w : World} {s : Option Addr} {m c : Nat} {l : List Int} (h : MadeY base w (.slice s m c) l) : RowY w s l.length (nthI l) := by
  obtain ⟨s', cap, e, O⟩ := madeY_own h
  cases e
  exact O.row
theorem madeY_fin {base : Nat} {w : World} {s : Option Addr} {m c : Nat} {l : List Int} (h : MadeY base w (.slice s m c) l) : m = l.length ∧ OwnY base w s l.length (nthI l) := by
  obtain ⟨s', cap, e, O⟩ := madeY_own h
  cases e
  exact ⟨rfl, O⟩
theorem ret_sl {s : Option Addr} {m m2 c : Nat} (h : m = m2) : Ending.returned (.slice s m c) = .returned (.slice s m2 c) := by rw [h]
theorem whole_is (t q : Int) (n : Nat) (V : Nat → Int) : bodyL t q n V n ++ [sumL (bodyL t q n V n) / 256, sumL (bodyL t q n V n) % 256] = wholeL t q n V := rfl
theorem cast_calls {P : Program} {f : Nat} {g : Option Addr} {m m2 c : Nat} {w : World} {Q : Ending → World → Prop} (h : m = m2) (H : Calls P f #[.slice g m2 c] w Q) : Calls P f #[.slice g m c] w Q := by rw [h]; exact H
theorem two_get {W : World} {B : Nat} {x y : Int} (h0 : W.cell? ⟨B, 0, none⟩ = some (.int .u8 x)) (h1 : W.cell? ⟨B, 1, none⟩ = some (.int .u8 y)) : ∀ j z, [x, y][j]? = some z → W.cell? ⟨B, j, none⟩ = some (.int .u8 z) := fun j z h => by
  match j, h with
  | 0, h => cases h; exact h0
  | 1, h => cases h; exact h1
theorem one_get {W : World} {B : Nat} {x : Int} (h0 : W.cell? ⟨B, 0, none⟩ = some (.int .u8 x)) : ∀ j z, [x][j]? = some z → W.cell? ⟨B, j, none⟩ = some (.int .u8 z) := fun j z h => by
  match j, h with
  | 0, h => cases h; exact h0
theorem five_get {W : World} {B : Nat} {x y z u v : Int} (h0 : W.cell? ⟨B, 0, none⟩ = some (.int .u8 x)) (h1 : W.cell? ⟨B, 1, none⟩ = some (.int .u8 y)) (h2 : W.cell? ⟨B, 2, none⟩ = some (.int .u8 z)) (h3 : W.cell? ⟨B, 3, none⟩ = some (.int .u8 u)) (h4 : W.cell? ⟨B, 4, none⟩ = some (.int .u8 v)) : ∀ j k, [x, y, z, u, v][j]? = some k → W.cell? ⟨B, j, none⟩ = some (.int .u8 k) := fun j k h => by
  match j, h with
  | 0, h => cases h; exact h0
  | 1, h => cases h; exact h1
  | 2, h => cases h; exact h2
  | 3, h => cases h; exact h3
  | 4, h => cases h; exact h4
end Go.Proofs.Ytkocbklkiehdiaa
