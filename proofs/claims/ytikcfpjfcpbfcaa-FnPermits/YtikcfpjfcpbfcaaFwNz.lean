/-
What is proved: rising lists in numbers, which of two comes first, and that the first one that cuts off is one alone.
-/
import Derived.Test.YtikcfpjfcpbfcaaCuSz
import Derived.Test.YtikcfpjfcpbfcaaZcC
namespace Go.Proofs.Ytikcfpjfcpbfcaa
set_option maxRecDepth 40000
open Go.ChangeShapes Go.WideShapes Go.ChangeAt Go.RowKit
set_option linter.unusedVariables false
set_option linter.unusedSimpArgs false

def RisL (d : Int) : List Int → Int → Prop
  | [], _ => True
  | x :: r, f => f ≤ x ∧ x < d ∧ RisL d r (x + 1)
def upF (f : Int) : Nat → List Int
  | 0 => []
  | k + 1 => f :: upF (f + 1) k
def upL (f : Int) : Nat → List Int
  | 0 => []
  | k + 1 => upL f k ++ [f + (k : Int)]
theorem upF_snoc (k : Nat) : ∀ f, upF f (k + 1) = upF f k ++ [f + (k : Int)] := by
  induction k with
  | zero => intro f; simp [upF]
  | succ k ih =>
    intro f
    show f :: upF (f + 1) (k + 1) = f :: upF (f + 1) k ++ [f + ((k + 1 : Nat) : Int)]
    rw [ih, List.cons_append]
    congr 2
    simp
    omega
theorem upL_F (f : Int) (k : Nat) : upL f k = upF f k := by
  induction k with
  | zero => rfl
  | succ k ih => rw [upF_snoc, ← ih]; rfl
theorem upL_len (f : Int) (k : Nat) : (upL f k).length = k := by
  induction k with
  | zero => rfl
  | succ k ih => unfold upL; rw [List.length_append, ih]; rfl
theorem rsl_len {d : Int} : ∀ (L : List Int) (f : Int), RisL d L f → L ≠ [] → f + (L.length : Int) ≤ d
  | [], _, _, h => absurd rfl h
  | [x], f, ⟨h1, h2, _⟩, _ => by simp; omega
  | x :: y :: r, f, ⟨h1, h2, h3⟩, _ => by
    have := rsl_len (y :: r) (x + 1) h3 (by simp)
    simp only [List.length_cons] at this ⊢
    omega
theorem rsl_full {d : Int} : ∀ (L : List Int) (f : Int), RisL d L f → f + (L.length : Int) = d → L = upF f L.length
  | [], _, _, _ => rfl
  | x :: r, f, ⟨h1, h2, h3⟩, h => by
    by_cases e : r = []
    · subst e
      simp at h ⊢
      simp [upF]
      omega
    · have h4 := rsl_len r (x + 1) h3 e
      have hx : x = f := by simp only [List.length_cons] at h; omega
      subst hx
      have h5 := rsl_full r (x + 1) h3 (by simp only [List.length_cons] at h; omega)
      show x :: r = x :: upF (x + 1) r.length
      rw [← h5]
theorem rsl_up (k : Nat) : ∀ (f d : Int), f + (k : Int) ≤ d → RisL d (upF f k) f := by
  induction k with
  | zero => intro _ _ _; trivial
  | succ k ih => intro f d h; exact ⟨Int.le_refl _, by omega, ih (f + 1) d (by omega)⟩
def ltM : List Int → List Int → Bool
  | x :: a, y :: b => if x < y then true else if y < x then false else ltM a b
  | [], _ => false
  | _ :: _, [] => false
theorem ltM_self : ∀ a : List Int, ltM a a = false
  | [] => rfl
  | x :: a => by unfold ltM; rw [if_neg (by omega), if_neg (by omega)]; exact ltM_self a
theorem ltM_tri : ∀ a b : List Int, a.length = b.length → ltM a b = false → ltM b a = false → a = b
  | [], [], _, _, _ => rfl
  | [], _ :: _, h, _, _ => by simp at h
  | _ :: _, [], h, _, _ => by simp at h
  | x :: a, y :: b, h, h1, h2 => by
    unfold ltM at h1 h2
    by_cases q1 : x < y
    · rw [if_pos q1] at h1; cases h1
    · by_cases q2 : y < x
      · rw [if_pos q2] at h2; cases h2
      · rw [if_neg q1, if_neg q2] at h1
        rw [if_neg q2, if_neg q1] at h2
        have hx : x = y := by omega
        subst hx
        rw [ltM_tri a b (by simpa using h) h1 h2]
theorem ltM_pre (a b : List Int) : ∀ ch : List Int, ltM (ch ++ a) (ch ++ b) = ltM a b
  | [] => rfl
  | x :: r => by
    rw [List.cons_append, List.cons_append]
    show (if x < x then true else if x < x then false else ltM (r ++ a) (r ++ b)) = _
    rw [if_neg (by omega), if_neg (by omega)]
    exact ltM_pre a b r
def caM (a b : List Int) : Bool := if a.length = b.length then ltM a b else decide (a.length < b.length)
theorem caM_self (a : List Int) : caM a a = false := by unfold caM; rw [if_pos rfl]; exact ltM_self a
theorem caM_tri {a b : List Int} (h1 : caM a b = false) (h2 : caM b a = false) : a = b := by
  unfold caM at h1 h2
  by_cases e : a.length = b.length
  · rw [if_pos e] at h1
    rw [if_pos e.symm] at h2
    exact ltM_tri a b e h1 h2
  · rw [if_neg e] at h1
    rw [if_neg (fun q => e q.symm)] at h2
    have := of_decide_eq_false h1
    have := of_decide_eq_false h2
    omega
/-- The first of the rising lists of which P holds. -/
def FwG (P : List Int → Bool) (d : Nat) (L : List Int) : Prop := RisL (d : Int) L 0 ∧ P L = true ∧ ∀ Y, RisL (d : Int) Y 0 → P Y = true → caM Y L = false
theorem fw_one {P : List Int → Bool} {d : Nat} {L L' : List Int} (h : FwG P d L) (g : FwG P d L') : L = L' := caM_tri (g.2.2 L h.1 h.2.1) (h.2.2 L' g.1 g.2.1)
/-- What the choosing of a list of s, those of ch ahead, the others from f on, comes to. -/
def ChP (P : List Int → Bool) (d : Nat) (ch : List Int) (f : Int) (s : Nat) (res : List Int) (ok : Bool) : Prop :=
  (ok = true → (∃ X, res = ch ++ X ∧ RisL (d : Int) X f) ∧ res.length = s ∧ P res = true ∧ ∀ Y, RisL (d : Int) Y f → (ch ++ Y).length = s → P (ch ++ Y) = true → ltM (ch ++ Y) res = false) ∧ (ok = false → ∀ Y, RisL (d : Int) Y f → (ch ++ Y).length = s → P (ch ++ Y) = false)
/-- None of those whose next one is below i. -/
def NoC (P : List Int → Bool) (d : Nat) (ch : List Int) (f : Int) (i : Int) (s : Nat) : Prop := ∀ y r, y < i → RisL (d : Int) (y :: r) f → (ch ++ y :: r).length = s → P (ch ++ y :: r) = false
theorem ch_base {P : List Int → Bool} {d : Nat} {ch : List Int} {f : Int} {s : Nat} (h : ch.length = s) : ChP P d ch f s ch (P ch) := by
  have hY : ∀ Y : List Int, (ch ++ Y).length = s → Y = [] := fun Y q => by
    rw [List.length_append] at q
    exact List.length_eq_zero_iff.1 (by omega)
  refine ⟨fun hp => ⟨⟨[], by simp, trivial⟩, h, hp, fun Y _ q _ => ?_⟩, fun hp Y _ q => ?_⟩
  · rw [hY Y q, List.append_nil]; exact ltM_self _
  · rw [hY Y q, List.append_nil]; exact hp
theorem noc_start {P : List Int → Bool} {d : Nat} {ch : List Int} {f : Int} {s : Nat} : NoC P d ch f f s := fun y r h ⟨h1, _⟩ _ => by omega
theorem noc_next {P : List Int → Bool} {d : Nat} {ch : List Int} {f i : Int} {s : Nat} {res : List Int} (h : NoC P d ch f i s) (hc : ChP P d (ch ++ [i]) (i + 1) s res false) : NoC P d ch f (i + 1) s := fun y r hy hr hl => by
  by_cases e : y = i
  · subst e
    have := hc.2 rfl r hr.2.2 (by simpa using hl)
    simpa using this
  · exact h y r (by omega) hr hl
theorem noc_hit {P : List Int → Bool} {d : Nat} {ch : List Int} {f i : Int} {s : Nat} {res : List Int} (h : NoC P d ch f i s) (hi : f ≤ i) (hd : i < (d : Int)) (hs : ch.length ≠ s) (hc : ChP P d (ch ++ [i]) (i + 1) s res true) : ChP P d ch f s res true := by
  obtain ⟨⟨X, e, hX⟩, h2, h3, h4⟩ := hc.1 rfl
  refine ⟨fun _ => ⟨⟨i :: X, by rw [e]; simp, hi, hd, hX⟩, h2, h3, fun Y hY hl hp => ?_⟩, fun q => by cases q⟩
  cases Y with
  | nil => rw [List.append_nil] at hl; exact absurd hl hs
  | cons y r =>
    by_cases q1 : y < i
    · rw [h y r q1 hY hl] at hp; cases hp
    · by_cases q2 : y = i
      · subst q2
        have := h4 r hY.2.2 (by simpa using hl) (by simpa using hp)
        simpa using this
      · rw [e, List.append_assoc, ltM_pre]
        show ltM (y :: r) (i :: X) = false
        unfold ltM
        rw [if_neg (by omega), if_pos (by omega)]
theorem noc_end {P : List Int → Bool} {d : Nat} {ch : List Int} {f : Int} {s : Nat} {res : List Int} {i : Int} (h : NoC P d ch f i s) (hi : (d : Int) ≤ i) (hs : ch.length ≠ s) : ChP P d ch f s res false := by
  refine ⟨fun q => (by cases q), fun _ Y hY hl => ?_⟩
  cases Y with
  | nil => rw [List.append_nil] at hl; exact absurd hl hs
  | cons y r => exact h y r (by have := hY.2.1; omega) hY hl
def SzN (P : List Int → Bool) (d s : Nat) : Prop := ∀ Y, RisL (d : Int) Y 0 → Y.length < s → P Y = false
theorem sz_start {P : List Int → Bool} {d : Nat} : SzN P d 0 := fun Y _ h => by omega
theorem sz_next {P : List Int → Bool} {d s : Nat} {res : List Int} (h : SzN P d s) (hc : ChP P d [] 0 s res false) : SzN P d (s + 1) := fun Y hY hl => by
  by_cases e : Y.length = s
  · have := hc.2 rfl Y hY (by simpa using e)
    simpa using this
  · exact h Y hY (by omega)
theorem sz_hit {P : List Int → Bool} {d s : Nat} {res : List Int} (h : SzN P d s) (hc : ChP P d [] 0 s res true) : FwG P d res := by
  obtain ⟨⟨X, e, hX⟩, h2, h3, h4⟩ := hc.1 rfl
  rw [List.nil_append] at e
  subst e
  refine ⟨hX, h3, fun Y hY hp => ?_⟩
  have hl : s ≤ Y.length := by
    rcases Nat.lt_or_ge Y.length s with q | q
    · rw [h Y hY q] at hp; cases hp
    · exact q
  unfold caM
  by_cases e : Y.length = res.length
  · rw [if_pos e]
    have := h4 Y hY (by simp; omega) (by simpa using hp)
    simpa using this
  · rw [if_neg e]
    exact decide_eq_false (by omega)
theorem sz_all {P : List Int → Bool} {d : Nat} (h : SzN P d d) (hp : P (upL 0 d) = true) : FwG P d (upL 0 d) := by
  refine ⟨by rw [upL_F]; exact rsl_up d 0 d (by omega), hp, fun Y hY hpY => ?_⟩
  have hl : d ≤ Y.length := by
    rcases Nat.lt_or_ge Y.length d with q | q
    · rw [h Y hY q] at hpY; cases hpY
    · exact q
  by_cases e : Y = []
  · subst e
    simp at hl
    subst hl
    rfl
  · have h1 := rsl_len Y 0 hY e
    have h2 := rsl_full Y 0 hY (by omega)
    have h3 : Y.length = d := by omega
    rw [h2, h3, ← upL_F]
    exact caM_self _
def cutL (p : Int) (n : Nat) (D : Nat → Int × Int) (m : Nat) (S : Nat → Int) (x : Int) (L : List Int) : Bool := cutB p n D m S L.length (nthI L) x
def fewB (p : Int) (n : Nat) (D : Nat → Int × Int) (m : Nat) (S : Nat → Int) (x : Int) : Bool := decide (n ≤ 14) && cutL p n D m S x (upL 0 n)
def FwR (p : Int) (n : Nat) (D : Nat → Int × Int) (m : Nat) (S : Nat → Int) (x : Int) (L : List Int) : Prop := (fewB p n D m S x = true → FwG (cutL p n D m S x) n L) ∧ (fewB p n D m S x = false → L = [])
theorem fw_ex (p : Int) (n : Nat) (D : Nat → Int × Int) (m : Nat) (S : Nat → Int) (x : Int) : ∃ M : List Int, M.length ≤ 14 ∧ ∀ L, FwR p n D m S x L → L = M := by
  cases e : fewB p n D m S x
  · exact ⟨[], by simp, fun L h => h.2 e⟩
  · have hn : n ≤ 14 := by
      unfold fewB at e
      rw [Bool.and_eq_true] at e
      exact of_decide_eq_true e.1
    rcases Classical.em (∃ L, FwG (cutL p n D m S x) n L) with ⟨L, h⟩ | h
    · refine ⟨L, ?_, fun L' g => fw_one (g.1 e) h⟩
      by_cases q : L = []
      · rw [q]; simp
      · have := rsl_len L 0 h.1 q; omega
    · exact ⟨[], by simp, fun L g => absurd ⟨L, g.1 e⟩ h⟩
theorem few_net {p : Int} {n : Nat} {D : Nat → Int × Int} {m : Nat} {S : Nat → Int} {x : Int} (h : netB p n D m S = false) : fewB p n D m S x = false := by
  unfold fewB cutL cutB
  rw [h]
  simp
theorem few_many {p : Int} {n : Nat} {D : Nat → Int × Int} {m : Nat} {S : Nat → Int} {x : Int} (h : 14 < n) : fewB p n D m S x = false := by
  unfold fewB
  rw [decide_eq_false (by omega), Bool.false_and]
theorem few_is {p : Int} {n : Nat} {D : Nat → Int × Int} {m : Nat} {S : Nat → Int} {x : Int} (h : n ≤ 14) : fewB p n D m S x = cutL p n D m S x (upL 0 n) := by
  unfold fewB
  rw [decide_eq_true h, Bool.true_and]
theorem fw_no {p : Int} {n : Nat} {D : Nat → Int × Int} {m : Nat} {S : Nat → Int} {x : Int} (h : fewB p n D m S x = false) : FwR p n D m S x [] := ⟨fun q => (by rw [h] at q; cases q), fun _ => rfl⟩
theorem fw_yes {p : Int} {n : Nat} {D : Nat → Int × Int} {m : Nat} {S : Nat → Int} {x : Int} {L : List Int} (h : fewB p n D m S x = true) (g : FwG (cutL p n D m S x) n L) : FwR p n D m S x L := ⟨fun _ => g, fun q => (by rw [h] at q; cases q)⟩
end Go.Proofs.Ytikcfpjfcpbfcaa
