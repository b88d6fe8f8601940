/-
What is proved: going through places one after another, each duct once, ends with what a way leads to; the numbers only.
-/
import Derived.Test.YtikcfpjfcpbfcaaCuN
import Derived.Test.YtikcfpjfcpbfcaaOwnL
namespace Go.Proofs.Ytikcfpjfcpbfcaa
set_option maxRecDepth 40000
open Go.ChangeShapes Go.WideShapes Go.ChangeAt Go.RowKit
set_option linter.unusedVariables false
set_option linter.unusedSimpArgs false

def offW (E : Nat → Bool) (j : Nat) : Nat → Bool := fun v => if v = j then false else E v
def AtEnd (D : Nat → Int × Int) (v : Nat) (y : Int) : Prop := y = (endA D v : Int) ∨ y = (endB D v : Int)
/-- What is kept while place nx of L is looked at, its valves below j done; E: the ducts that were not gone along yet. -/
structure Went (n : Nat) (D : Nat → Int × Int) (Sh W0 : Nat → Bool) (C : Nat) (L : List Int) (E : Nat → Bool) (nx j : Nat) : Prop where
  sound : ∀ y, y ∈ L → ∃ x : Nat, y = (x : Int) ∧ Reach n D Sh W0 x
  src : ∀ x, W0 x = true → (x : Int) ∈ L
  opn : ∀ v, v < n → E v = true → Sh v = false
  gone : ∀ v, v < n → Sh v = false → E v = false → (endA D v : Int) ∈ L ∧ (endB D v : Int) ∈ L
  done : ∀ i, i < nx → ∀ v, v < n → Sh v = false → AtEnd D v (nthI L i) → E v = false
  here : ∀ v, v < j → v < n → Sh v = false → AtEnd D v (nthI L nx) → E v = false
  cnt : L.length + cntW E n = C
  nxl : nx ≤ L.length
theorem cntW_off (E : Nat → Bool) (j : Nat) (h : E j = true) : ∀ n, j < n → cntW (offW E j) n + 1 = cntW E n
  | 0, hj => by omega
  | n + 1, hj => by
    have same : ∀ k, k ≤ j → cntW (offW E j) k = cntW E k := by
      intro k
      induction k with
      | zero => intro _; rfl
      | succ k ih => intro hk; simp only [cntW]; rw [ih (by omega)]; have : offW E j k = E k := by { unfold offW; rw [if_neg (by omega)] }
                     rw [this]
    simp only [cntW]
    by_cases e : j = n
    · subst e
      rw [same j (Nat.le_refl _)]
      have : offW E j j = false := by simp [offW]
      simp [this, h]
    · have := cntW_off E j h n (by omega)
      have q : offW E j n = E n := by unfold offW; rw [if_neg (by omega)]
      rw [q]; omega
theorem nthI_old {L : List Int} {y : Int} {i : Nat} (h : i < L.length) : nthI (L ++ [y]) i = nthI L i := by simp [nthI, List.getElem?_append_left h]
theorem nthI_mem {L : List Int} {i : Nat} (h : i < L.length) : nthI L i ∈ L := by simp [nthI, h]
theorem mem_nthI {L : List Int} {y : Int} (h : y ∈ L) : ∃ i, i < L.length ∧ nthI L i = y := by
  obtain ⟨i, hi, e⟩ := List.getElem_of_mem h
  exact ⟨i, hi, by simp [nthI, hi, e]⟩
theorem went_start {n : Nat} {D : Nat → Int × Int} {Sh : Nat → Bool} {m : Nat} {S : Nat → Int} {L : List Int} (hl : L.length = m) (hL : ∀ i, i < m → nthI L i = S i) (hS : ∀ i, i < m → 0 ≤ S i) : Went n D Sh (hasW S m) (m + cntW (fun v => !Sh v) n) L (fun v => !Sh v) 0 0 where
  sound y hy := by
    obtain ⟨i, hi, e⟩ := mem_nthI hy
    rw [hL i (by omega)] at e
    have := hS i (by omega)
    exact ⟨y.toNat, by omega, .src _ (hasW_iff.2 ⟨i, by omega, by omega⟩)⟩
  src x hx := by
    obtain ⟨i, hi, e⟩ := hasW_iff.1 hx
    rw [← e, ← hL i hi]; exact nthI_mem (by omega)
  opn v _ h := by simpa using h
  gone v _ h h2 := by rw [h] at h2; cases h2
  done i hi := by omega
  here v hv := by omega
  cnt := by rw [hl]
  nxl := Nat.zero_le _
theorem Went.skip {n : Nat} {D : Nat → Int × Int} {Sh W0 E : Nat → Bool} {L : List Int} {nx j C : Nat} (h : Went n D Sh W0 C L E nx j) (hq : E j = true → ¬ AtEnd D j (nthI L nx)) : Went n D Sh W0 C L E nx (j + 1) :=
  { h with
    here := fun v hv hn hs ha => by
      by_cases e : v = j
      · subst e
        cases q : E v
        · rfl
        · exact absurd ha (hq q)
      · exact h.here v (by omega) hn hs ha }
theorem Went.next {n : Nat} {D : Nat → Int × Int} {Sh W0 E : Nat → Bool} {L : List Int} {nx j C : Nat} (h : Went n D Sh W0 C L E nx j) (hj : n ≤ j) (hl : nx < L.length) : Went n D Sh W0 C L E (nx + 1) 0 :=
  { h with
    done := fun i hi v hv hs ha => by
      by_cases e : i = nx
      · subst e; exact h.here v (by omega) hv hs ha
      · exact h.done i (by omega) v hv hs ha
    here := fun v hv => by omega
    nxl := hl }
theorem Went.take {n : Nat} {D : Nat → Int × Int} {Sh W0 E : Nat → Bool} {L : List Int} {nx j C : Nat} {y z : Int} (h : Went n D Sh W0 C L E nx j) (hj : j < n) (hl : nx < L.length) (hE : E j = true) (hy : nthI L nx = y) (hz : (y = (endA D j : Int) ∧ z = (endB D j : Int)) ∨ (y = (endB D j : Int) ∧ z = (endA D j : Int))) : Went n D Sh W0 C (L ++ [z]) (offW E j) nx (j + 1) where
  sound u hu := by
    rcases List.mem_append.1 hu with hu | hu
    · exact h.sound u hu
    · obtain rfl : u = z := by simpa using hu
      have ym : y ∈ L := hy ▸ nthI_mem hl
      obtain ⟨x, hx, hr⟩ := h.sound y ym
      have so := h.opn j hj hE
      rcases hz with ⟨e1, e2⟩ | ⟨e1, e2⟩
      · exact ⟨_, e2, .there j hj so (by have : x = endA D j := by omega
                                         rw [← this]; exact hr)⟩
      · exact ⟨_, e2, .back j hj so (by have : x = endB D j := by omega
                                        rw [← this]; exact hr)⟩
  src x hx := List.mem_append.2 (.inl (h.src x hx))
  opn v hv he := h.opn v hv (by unfold offW at he; split at he; · cases he
                                exact he)
  gone v hv hs he := by
    by_cases e : v = j
    · subst e
      have ym : y ∈ L := hy ▸ nthI_mem hl
      rcases hz with ⟨e1, e2⟩ | ⟨e1, e2⟩
      · rw [← e1, ← e2]; simp [ym]
      · rw [← e1, ← e2]; simp [ym]
    · have := h.gone v hv hs (by unfold offW at he; rw [if_neg e] at he; exact he)
      exact ⟨List.mem_append.2 (.inl this.1), List.mem_append.2 (.inl this.2)⟩
  done i hi v hv hs ha := by
    rw [nthI_old (by omega)] at ha
    have := h.done i hi v hv hs ha
    unfold offW; split
    · rfl
    · exact this
  here v hv hn hs ha := by
    rw [nthI_old hl] at ha
    unfold offW; split
    · rfl
    · exact h.here v (by omega) hn hs ha
  cnt := by
    have := cntW_off E j hE n hj
    have := h.cnt
    simp; omega
  nxl := by simp; have := h.nxl; omega
theorem Went.all {n : Nat} {D : Nat → Int × Int} {Sh W0 E : Nat → Bool} {L : List Int} {nx j C : Nat} (h : Went n D Sh W0 C L E nx j) (hl : L.length ≤ nx) (x : Nat) : (x : Int) ∈ L ↔ Reach n D Sh W0 x := by
  constructor
  · intro hx
    obtain ⟨y, e, hr⟩ := h.sound _ hx
    obtain rfl : x = y := by omega
    exact hr
  · intro hr
    have shut : ∀ v, v < n → Sh v = false → ∀ u, u ∈ L → AtEnd D v u → (endA D v : Int) ∈ L ∧ (endB D v : Int) ∈ L := by
      intro v hv hs u hu ha
      obtain ⟨i, hi, e⟩ := mem_nthI hu
      exact h.gone v hv hs (h.done i (by omega) v hv hs (by rw [e]; exact ha))
    exact hr (fun x => (x : Int) ∈ L) (fun x hx => h.src x hx) (fun v hv hs ih => (shut v hv hs _ ih (.inl rfl)).2) (fun v hv hs ih => (shut v hv hs _ ih (.inr rfl)).1)
theorem Went.len {n : Nat} {D : Nat → Int × Int} {Sh W0 E : Nat → Bool} {L : List Int} {nx j C : Nat} (h : Went n D Sh W0 C L E nx j) : L.length ≤ C := by have := h.cnt; omega
end Go.Proofs.Ytikcfpjfcpbfcaa
