/-
What is proved: passes over the ducts of a right net, as many as it has places, wet just what a way leads to.
-/
import Derived.Test.YtikcfpjfcpbfcaaNtz
import Derived.Test.YtikcfpjfcpbfcaaZcA
import Derived.Maps.OwnSet
import Derived.DeepKeys4
import Derived.BigQuiet
import Derived.Deep.OwnRows
import Derived.Deep.RegionHeld3
import Derived.Deep.DeepCutAuto
import Derived.Deep.AppendLies
import Derived.Laws.OwnMore
namespace Go.Proofs.Ytikcfpjfcpbfcaa
set_option maxRecDepth 40000
open Go.ChangeShapes Go.WideShapes Go.ChangeAt Go.RowKit
set_option linter.unusedVariables false
set_option linter.unusedSimpArgs false

def endA (D : Nat → Int × Int) (j : Nat) : Nat := (D j).1.toNat
def endB (D : Nat → Int × Int) (j : Nat) : Nat := (D j).2.toNat
def hasW (S : Nat → Int) (m x : Nat) : Bool := (List.range m).any fun j => decide (S j = (x : Int))
theorem hasW_iff {S : Nat → Int} {m x : Nat} : hasW S m x = true ↔ ∃ j, j < m ∧ S j = (x : Int) := by simp [hasW]
theorem hasW_succ (S : Nat → Int) (m x : Nat) : hasW S (m + 1) x = (hasW S m x || decide (S m = (x : Int))) := by simp [hasW, List.range_succ]
def stepW (W : Nat → Bool) (a b : Nat) (sh : Bool) : Nat → Bool := if (!sh && (W a != W b)) = true then (fun x => W x || (x == a || x == b)) else W
def passW (D : Nat → Int × Int) (Sh : Nat → Bool) : Nat → (Nat → Bool) → Nat → Bool
  | 0, W => W
  | k + 1, W => stepW (passW D Sh k W) (endA D k) (endB D k) (Sh k)
def wetW (n : Nat) (D : Nat → Int × Int) (Sh : Nat → Bool) (W0 : Nat → Bool) : Nat → Nat → Bool
  | 0 => W0
  | s + 1 => passW D Sh n (wetW n D Sh W0 s)
/-- What lies in every set that holds the sources and is closed along the ducts that are not shut. -/
def Reach (n : Nat) (D : Nat → Int × Int) (Sh : Nat → Bool) (W0 : Nat → Bool) (x : Nat) : Prop := ∀ T : Nat → Prop, (∀ y, W0 y = true → T y) → (∀ j, j < n → Sh j = false → T (endA D j) → T (endB D j)) → (∀ j, j < n → Sh j = false → T (endB D j) → T (endA D j)) → T x
theorem Reach.src {n : Nat} {D : Nat → Int × Int} {Sh W0 : Nat → Bool} (x : Nat) (h : W0 x = true) : Reach n D Sh W0 x := fun _ h1 _ _ => h1 x h
theorem Reach.there {n : Nat} {D : Nat → Int × Int} {Sh W0 : Nat → Bool} (j : Nat) (hj : j < n) (hs : Sh j = false) (h : Reach n D Sh W0 (endA D j)) : Reach n D Sh W0 (endB D j) := fun T h1 h2 h3 => h2 j hj hs (h T h1 h2 h3)
theorem Reach.back {n : Nat} {D : Nat → Int × Int} {Sh W0 : Nat → Bool} (j : Nat) (hj : j < n) (hs : Sh j = false) (h : Reach n D Sh W0 (endB D j)) : Reach n D Sh W0 (endA D j) := fun T h1 h2 h3 => h3 j hj hs (h T h1 h2 h3)
def cntW (W : Nat → Bool) : Nat → Nat
  | 0 => 0
  | k + 1 => cntW W k + (if W k = true then 1 else 0)
theorem cnt_le (W : Nat → Bool) : ∀ k, cntW W k ≤ k
  | 0 => Nat.le_refl _
  | k + 1 => by have := cnt_le W k; simp only [cntW]; split <;> omega
theorem cnt_mono {W U : Nat → Bool} : ∀ k, (∀ x, x < k → W x = true → U x = true) → cntW W k ≤ cntW U k
  | 0, _ => Nat.le_refl _
  | k + 1, h => by
    have i := cnt_mono k (fun x hx => h x (by omega))
    simp only [cntW]
    by_cases q : W k = true
    · have := h k (by omega) q; simp [q, this]; omega
    · simp [q]; omega
theorem cnt_lt {W U : Nat → Bool} : ∀ k, (∀ x, x < k → W x = true → U x = true) → (∃ x, x < k ∧ W x = false ∧ U x = true) → cntW W k < cntW U k
  | 0, _, h => by obtain ⟨x, hx, _⟩ := h; omega
  | k + 1, h, ⟨x, hx, a, b⟩ => by
    simp only [cntW]
    by_cases e : x = k
    · subst e
      have i := cnt_mono x (fun y hy => h y (by omega))
      simp [a, b]; omega
    · have i := cnt_lt k (fun y hy => h y (by omega)) ⟨x, by omega, a, b⟩
      by_cases q : W k = true
      · have := h k (by omega) q; simp [q, this]; omega
      · simp [q]; omega
theorem cnt_all {W : Nat → Bool} : ∀ k, k ≤ cntW W k → ∀ x, x < k → W x = true
  | 0, _, x, hx => by omega
  | k + 1, h, x, hx => by
    have l := cnt_le W k
    simp only [cntW] at h
    by_cases q : W k = true
    · simp [q] at h
      by_cases e : x = k
      · rw [e]; exact q
      · exact cnt_all k h x (by omega)
    · simp [q] at h; omega
theorem step_mono {W : Nat → Bool} {a b : Nat} {sh : Bool} {x : Nat} (h : W x = true) : stepW W a b sh x = true := by
  unfold stepW; split
  · simp [h]
  · exact h
theorem pass_from {D : Nat → Int × Int} {Sh W : Nat → Bool} {x : Nat} : ∀ {j} (k : Nat), j ≤ k → passW D Sh j W x = true → passW D Sh k W x = true
  | j, 0, hj, h => by have : j = 0 := by omega
                      subst this; exact h
  | j, k + 1, hj, h => by
    by_cases e : j = k + 1
    · subst e; exact h
    · exact step_mono (pass_from k (by omega) h)
theorem pass_mono {D : Nat → Int × Int} {Sh W : Nat → Bool} {x : Nat} (k : Nat) (h : W x = true) : passW D Sh k W x = true := pass_from (j := 0) k (Nat.zero_le _) h
def Shuts (n : Nat) (D : Nat → Int × Int) (Sh W : Nat → Bool) : Prop := ∀ j, j < n → Sh j = false → W (endA D j) = W (endB D j)
theorem pass_closed {n : Nat} {D : Nat → Int × Int} {Sh W : Nat → Bool} (h : Shuts n D Sh W) : ∀ k, k ≤ n → passW D Sh k W = W
  | 0, _ => rfl
  | k + 1, hk => by
    show stepW (passW D Sh k W) _ _ _ = W
    rw [pass_closed h k (by omega)]
    unfold stepW
    cases q : Sh k
    · have := h k (by omega) q
      simp [this]
    · simp
theorem pass_joins {n : Nat} {D : Nat → Int × Int} {Sh W : Nat → Bool} {j : Nat} (hj : j < n) (hs : Sh j = false) (hd : W (endA D j) ≠ W (endB D j)) : passW D Sh n W (endA D j) = true ∧ passW D Sh n W (endB D j) = true := by
  have one : passW D Sh (j + 1) W (endA D j) = true ∧ passW D Sh (j + 1) W (endB D j) = true := by
    show stepW _ _ _ _ _ = true ∧ stepW _ _ _ _ _ = true
    have o : passW D Sh j W (endA D j) = true ∨ passW D Sh j W (endB D j) = true := by
      cases q : W (endA D j)
      · right; apply pass_mono; rw [q] at hd; revert hd; cases W (endB D j) <;> simp
      · left; exact pass_mono j q
    unfold stepW
    rw [hs]
    revert o
    cases q1 : passW D Sh j W (endA D j) <;> cases q2 : passW D Sh j W (endB D j) <;> simp [q1, q2]
  exact ⟨pass_from n (by omega) one.1, pass_from n (by omega) one.2⟩
theorem wet_count {n p : Nat} {D : Nat → Int × Int} {Sh W0 : Nat → Bool} (hD : ∀ j, j < n → endA D j < p ∧ endB D j < p) : ∀ s, Shuts n D Sh (wetW n D Sh W0 s) ∨ s ≤ cntW (wetW n D Sh W0 s) p
  | 0 => .inr (Nat.zero_le _)
  | s + 1 => by
    by_cases c : Shuts n D Sh (wetW n D Sh W0 s)
    · left
      show Shuts n D Sh (passW D Sh n _)
      rw [pass_closed c n (Nat.le_refl _)]; exact c
    · right
      have i : s ≤ cntW (wetW n D Sh W0 s) p := (wet_count hD s).resolve_left c
      have ⟨j, hj, hs, hd⟩ : ∃ j, j < n ∧ Sh j = false ∧ wetW n D Sh W0 s (endA D j) ≠ wetW n D Sh W0 s (endB D j) := by
        refine Classical.byContradiction fun q => c fun j hj hs => Classical.byContradiction fun r => q ⟨j, hj, hs, r⟩
      have jn := pass_joins hj hs hd
      have := cnt_lt (W := wetW n D Sh W0 s) (U := passW D Sh n (wetW n D Sh W0 s)) p (fun x _ h => pass_mono n h) (by
        cases q : wetW n D Sh W0 s (endA D j)
        · exact ⟨_, (hD j hj).1, q, jn.1⟩
        · exact ⟨_, (hD j hj).2, by rw [q] at hd; revert hd; cases wetW n D Sh W0 s (endB D j) <;> simp, jn.2⟩)
      show s + 1 ≤ cntW (passW D Sh n _) p
      omega
theorem wet_closed {n p : Nat} {D : Nat → Int × Int} {Sh W0 : Nat → Bool} (hD : ∀ j, j < n → endA D j < p ∧ endB D j < p) : Shuts n D Sh (wetW n D Sh W0 p) := by
  rcases wet_count (Sh := Sh) (W0 := W0) hD p with h | h
  · exact h
  · intro j hj _
    rw [cnt_all p h _ (hD j hj).1, cnt_all p h _ (hD j hj).2]
theorem pass_reach {n : Nat} {D : Nat → Int × Int} {Sh W0 W : Nat → Bool} (h : ∀ x, W x = true → Reach n D Sh W0 x) : ∀ k, k ≤ n → ∀ x, passW D Sh k W x = true → Reach n D Sh W0 x
  | 0, _, x, hx => h x hx
  | k + 1, hk, x, hx => by
    have i := pass_reach h k (by omega)
    change stepW _ _ _ _ _ = true at hx
    unfold stepW at hx
    split at hx
    · rename_i q
      simp only [Bool.and_eq_true, Bool.not_eq_true', bne_iff_ne, ne_eq] at q
      simp only [Bool.or_eq_true, beq_iff_eq] at hx
      have both : Reach n D Sh W0 (endA D k) ∧ Reach n D Sh W0 (endB D k) := by
        cases q1 : passW D Sh k W (endA D k)
        · have q2 : passW D Sh k W (endB D k) = true := by
            have := q.2; rw [q1] at this; revert this; cases passW D Sh k W (endB D k) <;> simp
          exact ⟨.back k (by omega) q.1 (i _ q2), i _ q2⟩
        · exact ⟨i _ q1, .there k (by omega) q.1 (i _ q1)⟩
      rcases hx with hx | hx | hx
      · exact i x hx
      · rw [hx]; exact both.1
      · rw [hx]; exact both.2
    · exact i x hx
theorem wet_reach {n p : Nat} {D : Nat → Int × Int} {Sh W0 : Nat → Bool} (hD : ∀ j, j < n → endA D j < p ∧ endB D j < p) (x : Nat) : wetW n D Sh W0 p x = true ↔ Reach n D Sh W0 x := by
  constructor
  · have : ∀ s x, wetW n D Sh W0 s x = true → Reach n D Sh W0 x := by
      intro s
      induction s with
      | zero => exact fun x h => .src x h
      | succ s ih => exact pass_reach ih n (Nat.le_refl _)
    exact this p x
  · intro h
    have c := wet_closed (Sh := Sh) (W0 := W0) hD
    refine h (fun x => wetW n D Sh W0 p x = true) (fun x h => ?_) (fun j hj hs ih => ?_) (fun j hj hs ih => ?_)
    · have : ∀ s, wetW n D Sh W0 s x = true := by
        intro s
        induction s with
        | zero => exact h
        | succ s ih => exact pass_mono n ih
      exact this p
    · show wetW n D Sh W0 p _ = true
      rw [← c j hj hs]; exact ih
    · show wetW n D Sh W0 p _ = true
      rw [c j hj hs]; exact ih

open Go.RowKit
set_option linter.unusedVariables false

theorem info_i64 : (Try.prog.info? 2).map (fun i => (i.zero, i.size, i.bytes)) = some (some (.int .i64 0), 1, 8) := by kernel_rfl
theorem list_i64 {ops : Array Oper} {rest : List Oper} {o : Oper} {a : Act} {Q : Exit → Act → World → Prop} {W : World} {t : TypeId} {x : Int} (base : Nat) (v : Value) (k : Nat) (xs : List Value) (s z : Operand) (hgd : o.guard = none)
    (ho : o.op = .call { callee := .builtin .append, args := #[s, z], argTypes := #[23, 23] }) (hs : a.eval s = v) (hx : a.eval z = .slice (some ⟨W.heap.size, 0, none⟩) 1 1) (hown : W.ownsRow base 2 1 v k xs) (hk : k ≤ 10000000) (hb : base ≤ W.heap.size)
    (h : ∀ g cap w', w'.ownsRow base 2 1 (.slice (some ⟨g, 0, none⟩) (k + 1) cap) (k + 1) (xs ++ [.int .i64 x]) → W.grownBy w' v.ownBlock → g < w'.heap.size → wpList Try.prog ops Q rest (a.put o.dst (.slice (some ⟨g, 0, none⟩) (k + 1) cap)) w') :
    wpList Try.prog ops Q (o :: rest) a (W.alloc (.cells #[.int .i64 x] t)) := by
  obtain ⟨i0, hi, hz0, hz1, hz2⟩ := info_parts info_i64
  refine wpList_append_lies _ hgd s z 23 ho base 2 i0 (.int .i64 0) 1 8 Try.underlying23 hi hz0 hz1 hz2 rfl (by decide) v k xs hs (hown.alloc _) ⟨W.heap.size, 0, none⟩ 1 1 [.int .i64 x] hx rfl (newsOne _ _ _) ?_ (by decide) (by unfold maxLen; omega) (by omega) (by simp; omega) _ rfl ?_
  · intro u hu
    simp at hu
    subst hu; rfl
  · intro g cap w' h1 h2 _ h3
    exact h g cap w' h1 (grown_new h2) h3

/-- A row that the call makes: its first k are U. -/
def MadeI (base : Nat) (w wr : World) (v : Value) (k : Nat) (U : Nat → Int) : Prop := wr.ownsRow base 2 1 v k (vals U k) ∧ Below base w wr
theorem made_lit (w : World) (U : Nat → Int) {base : Nat} (hb : base ≤ w.heap.size) : MadeI base w (w.alloc (.cells #[] 2)) (.slice (some ⟨w.heap.size, 0, none⟩) 0 0) 0 U :=
  ⟨by simpa [vals] using World.ownsRow_lit (base := base) (size := 1) (e := 2) w #[] 0 hb (by simp [maxLen]) (by simp), (Below.refl _ _).alloc hb _⟩
open Go.RowKit
set_option linter.unusedVariables false

theorem list_i64h {ops : Array Oper} {rest : List Oper} {o : Oper} {a : Act} {Q : Exit → Act → World → Prop} {W : World} {t : TypeId} {x : Int} (base : Nat) (v : Value) (k : Nat) (xs : List Value) (s z : Operand) (hgd : o.guard = none)
    (ho : o.op = .call { callee := .builtin .append, args := #[s, z], argTypes := #[23, 23] }) (hs : a.eval s = v) (hx : a.eval z = .slice (some ⟨W.heap.size, 0, none⟩) 1 1) (hown : W.ownsRow base 2 1 v k xs) (hk : k ≤ 10000000) (hb : base ≤ W.heap.size)
    (h : ∀ g cap w', w'.ownsRow base 2 1 (.slice (some ⟨g, 0, none⟩) (k + 1) cap) (k + 1) (xs ++ [.int .i64 x]) → W.grownBy w' v.ownBlock → g < w'.heap.size → (v.ownBlock = some g ∨ W.heap.size < g) → wpList Try.prog ops Q rest (a.put o.dst (.slice (some ⟨g, 0, none⟩) (k + 1) cap)) w') :
    wpList Try.prog ops Q (o :: rest) a (W.alloc (.cells #[.int .i64 x] t)) := by
  obtain ⟨i0, hi, hz0, hz1, hz2⟩ := info_parts info_i64
  refine wpList_append_lies _ hgd s z 23 ho base 2 i0 (.int .i64 0) 1 8 Try.underlying23 hi hz0 hz1 hz2 rfl (by decide) v k xs hs (hown.alloc _) ⟨W.heap.size, 0, none⟩ 1 1 [.int .i64 x] hx rfl (newsOne _ _ _) ?_ (by decide) (by unfold maxLen; omega) (by omega) (by simp; omega) _ rfl ?_
  · intro u hu
    simp at hu
    subst hu; rfl
  · intro g cap w' h1 h2 h4 h3
    refine h g cap w' h1 (grown_new h2) h3 ?_
    rcases h4 with h4 | h4
    · exact .inl h4
    · right; rw [h4]; simp

theorem below_drewN (w : World) (q : Nat) : Below w.heap.size w (w.drewN q) := bDrewN (Below.refl _ _) q

def cellsOf (l : List Int) : List Value := l.map fun x => .int .i64 x
theorem cellsOf_snoc (l : List Int) (x : Int) : cellsOf (l ++ [x]) = cellsOf l ++ [.int .i64 x] := by simp [cellsOf]
/-- The numbers of a list by their places. -/
def nthI (l : List Int) (j : Nat) : Int := l.getD j 0
theorem vals_nth (l : List Int) : vals (nthI l) l.length = cellsOf l := by
  unfold vals cellsOf
  refine List.ext_getElem? fun i => ?_
  by_cases h : i < l.length
  · simp [h, nthI]
  · simp [h]
theorem own_same {w w' : World} {base : Nat} {e : TypeId} {size : Nat} {v : Value} {n : Nat} {xs : List Value} (h : w.ownsRow base e size v n xs) (hs : ∀ g, v.ownBlock = some g → w'.heap[g]? = w.heap[g]?) : w'.ownsRow base e size v n xs := by
  refine ⟨h.1, ?_⟩
  rcases h.2 with q | ⟨g, cap, cur, e1, hb, hg, r⟩
  · exact .inl q
  · exact .inr ⟨g, cap, cur, e1, hb, (hs g (by rw [e1]; rfl)).trans hg, r⟩
open Go.ChangeShapes Go.WideShapes Go.ChangeAt Go.RowKit
set_option linter.unusedVariables false
set_option linter.unusedSimpArgs false

def offW (E : Nat → Bool) (j : Nat) : Nat → Bool := fun v => if v = j then false else E v
def AtEnd (D : Nat → Int × Int) (v : Nat) (y : Int) : Prop := y = (endA D v : Int) ∨ y = (endB D v : Int)
/-- What is kept while place nx of L is looked at, its valves below j done; E: the ducts that were not gone along yet. -/
structure Went (n : Nat) (D : Nat → Int × Int) (Sh W0 : Nat → Bool) (C : Nat) (L : List Int) (E : Nat → Bool) (nx j : Nat) : Prop where
  sound : ∀ y, y ∈ L → ∃ x : Nat, y = (x : Int) ∧ Reach n D Sh W0 x
  src : ∀ x, W0 x = true → (x : Int) ∈ L
  opn : ∀ v, v < n → E v = true → Sh v = false
  gone : ∀ v, v < n → Sh v = false → E v = false → (endA D v : Int) ∈ L ∧ (endB D v : Int) ∈ L
  done : ∀ i, i < nx → ∀ v, v < n → Sh v = false → AtEnd D v (nthI L i) → E v = false
  here : ∀ v, v < j → v < n → Sh v = false → AtEnd D v (nthI L nx) → E v = false
  cnt : L.length + cntW E n = C
  nxl : nx ≤ L.length
theorem cntW_off (E : Nat → Bool) (j : Nat) (h : E j = true) : ∀ n, j < n → cntW (offW E j) n + 1 = cntW E n
  | 0, hj => by omega
  | n + 1, hj => by
    have same : ∀ k, k ≤ j → cntW (offW E j) k = cntW E k := by
      intro k
      induction k with
      | zero => intro _; rfl
      | succ k ih => intro hk; simp only [cntW]; rw [ih (by omega)]; have : offW E j k = E k := by { unfold offW; rw [if_neg (by omega)] }
                     rw [this]
    simp only [cntW]
    by_cases e : j = n
    · subst e
      rw [same j (Nat.le_refl _)]
      have : offW E j j = false := by simp [offW]
      simp [this, h]
    · have := cntW_off E j h n (by omega)
      have q : offW E j n = E n := by unfold offW; rw [if_neg (by omega)]
      rw [q]; omega
theorem nthI_old {L : List Int} {y : Int} {i : Nat} (h : i < L.length) : nthI (L ++ [y]) i = nthI L i := by simp [nthI, List.getElem?_append_left h]
theorem nthI_mem {L : List Int} {i : Nat} (h : i < L.length) : nthI L i ∈ L := by simp [nthI, h]
theorem mem_nthI {L : List Int} {y : Int} (h : y ∈ L) : ∃ i, i < L.length ∧ nthI L i = y := by
  obtain ⟨i, hi, e⟩ := List.getElem_of_mem h
  exact ⟨i, hi, by simp [nthI, hi, e]⟩
theorem went_start {n : Nat} {D : Nat → Int × Int} {Sh : Nat → Bool} {m : Nat} {S : Nat → Int} {L : List Int} (hl : L.length = m) (hL : ∀ i, i < m → nthI L i = S i) (hS : ∀ i, i < m → 0 ≤ S i) : Went n D Sh (hasW S m) (m + cntW (fun v => !Sh v) n) L (fun v => !Sh v) 0 0 where
  sound y hy := by
    obtain ⟨i, hi, e⟩ := mem_nthI hy
    rw [hL i (by omega)] at e
    have := hS i (by omega)
    exact ⟨y.toNat, by omega, .src _ (hasW_iff.2 ⟨i, by omega, by omega⟩)⟩
  src x hx := by
    obtain ⟨i, hi, e⟩ := hasW_iff.1 hx
    rw [← e, ← hL i hi]; exact nthI_mem (by omega)
  opn v _ h := by simpa using h
  gone v _ h h2 := by rw [h] at h2; cases h2
  done i hi := by omega
  here v hv := by omega
  cnt := by rw [hl]
  nxl := Nat.zero_le _
theorem Went.skip {n : Nat} {D : Nat → Int × Int} {Sh W0 E : Nat → Bool} {L : List Int} {nx j C : Nat} (h : Went n D Sh W0 C L E nx j) (hq : E j = true → ¬ AtEnd D j (nthI L nx)) : Went n D Sh W0 C L E nx (j + 1) :=
  { h with
    here := fun v hv hn hs ha => by
      by_cases e : v = j
      · subst e
        cases q : E v
        · rfl
        · exact absurd ha (hq q)
      · exact h.here v (by omega) hn hs ha }
theorem Went.next {n : Nat} {D : Nat → Int × Int} {Sh W0 E : Nat → Bool} {L : List Int} {nx j C : Nat} (h : Went n D Sh W0 C L E nx j) (hj : n ≤ j) (hl : nx < L.length) : Went n D Sh W0 C L E (nx + 1) 0 :=
  { h with
    done := fun i hi v hv hs ha => by
      by_cases e : i = nx
      · subst e; exact h.here v (by omega) hv hs ha
      · exact h.done i (by omega) v hv hs ha
    here := fun v hv => by omega
    nxl := hl }
theorem Went.take {n : Nat} {D : Nat → Int × Int} {Sh W0 E : Nat → Bool} {L : List Int} {nx j C : Nat} {y z : Int} (h : Went n D Sh W0 C L E nx j) (hj : j < n) (hl : nx < L.length) (hE : E j = true) (hy : nthI L nx = y) (hz : (y = (endA D j : Int) ∧ z = (endB D j : Int)) ∨ (y = (endB D j : Int) ∧ z = (endA D j : Int))) : Went n D Sh W0 C (L ++ [z]) (offW E j) nx (j + 1) where
  sound u hu := by
    rcases List.mem_append.1 hu with hu | hu
    · exact h.sound u hu
    · obtain rfl : u = z := by simpa using hu
      have ym : y ∈ L := hy ▸ nthI_mem hl
      obtain ⟨x, hx, hr⟩ := h.sound y ym
      have so := h.opn j hj hE
      rcases hz with ⟨e1, e2⟩ | ⟨e1, e2⟩
      · exact ⟨_, e2, .there j hj so (by have : x = endA D j := by omega
                                         rw [← this]; exact hr)⟩
      · exact ⟨_, e2, .back j hj so (by have : x = endB D j := by omega
                                        rw [← this]; exact hr)⟩
  src x hx := List.mem_append.2 (.inl (h.src x hx))
  opn v hv he := h.opn v hv (by unfold offW at he; split at he; · cases he
                                exact he)
  gone v hv hs he := by
    by_cases e : v = j
    · subst e
      have ym : y ∈ L := hy ▸ nthI_mem hl
      rcases hz with ⟨e1, e2⟩ | ⟨e1, e2⟩
      · rw [← e1, ← e2]; simp [ym]
      · rw [← e1, ← e2]; simp [ym]
    · have := h.gone v hv hs (by unfold offW at he; rw [if_neg e] at he; exact he)
      exact ⟨List.mem_append.2 (.inl this.1), List.mem_append.2 (.inl this.2)⟩
  done i hi v hv hs ha := by
    rw [nthI_old (by omega)] at ha
    have := h.done i hi v hv hs ha
    unfold offW; split
    · rfl
    · exact this
  here v hv hn hs ha := by
    rw [nthI_old hl] at ha
    unfold offW; split
    · rfl
    · exact h.here v (by omega) hn hs ha
  cnt := by
    have := cntW_off E j hE n hj
    have := h.cnt
    simp; omega
  nxl := by simp; have := h.nxl; omega
theorem Went.all {n : Nat} {D : Nat → Int × Int} {Sh W0 E : Nat → Bool} {L : List Int} {nx j C : Nat} (h : Went n D Sh W0 C L E nx j) (hl : L.length ≤ nx) (x : Nat) : (x : Int) ∈ L ↔ Reach n D Sh W0 x := by
  constructor
  · intro hx
    obtain ⟨y, e, hr⟩ := h.sound _ hx
    obtain rfl : x = y := by omega
    exact hr
  · intro hr
    have shut : ∀ v, v < n → Sh v = false → ∀ u, u ∈ L → AtEnd D v u → (endA D v : Int) ∈ L ∧ (endB D v : Int) ∈ L := by
      intro v hv hs u hu ha
      obtain ⟨i, hi, e⟩ := mem_nthI hu
      exact h.gone v hv hs (h.done i (by omega) v hv hs (by rw [e]; exact ha))
    exact hr (fun x => (x : Int) ∈ L) (fun x hx => h.src x hx) (fun v hv hs ih => (shut v hv hs _ ih (.inl rfl)).2) (fun v hv hs ih => (shut v hv hs _ ih (.inr rfl)).1)
theorem Went.len {n : Nat} {D : Nat → Int × Int} {Sh W0 E : Nat → Bool} {L : List Int} {nx j C : Nat} (h : Went n D Sh W0 C L E nx j) : L.length ≤ C := by have := h.cnt; omega

open Go.ChangeShapes Go.WideShapes Go.ChangeAt Go.RowKit
set_option linter.unusedVariables false
set_option linter.unusedSimpArgs false

open Go.Maps Go.WideMaps
theorem exWide : (match Try.prog.underlying 129 with | some (.array _ _) | some (.struct _) => true | _ => false) = true := by kernel_rfl
theorem exLaw : Keyed Try.prog 129 := Keyed.of_law (deep_law_laid laidOut (m := 3) (by omega) (of_decide_eq_true (by kernel_rfl)) (by kernel_rfl) exWide)
def exL (x v : Int) : Lit := .string (keyBytes [.int .i64 x, .int .i64 v])
theorem exKT : Try.prog.keyType 129 = true := by kernel_rfl
theorem exCells : Try.prog.cellsOf 129 = 2 := by kernel_rfl
theorem iCells : Try.prog.cellsOf 2 = 1 := by kernel_rfl
theorem jCells : Try.prog.cellsOf 3 = 1 := by kernel_rfl
theorem exKey {x v : Int} (wx : (Lit.int .i64 x).wf = true) (wv : (Lit.int .i64 v).wf = true) : keyOf Try.prog 129 (.agg #[.int .i64 x, .int .i64 v]) = some (exL x v) := by
  have h0 : (0 : Nat) < Try.prog.types.size := of_decide_eq_true (by kernel_rfl)
  obtain ⟨q, hq⟩ : ∃ q, Try.prog.types.size = q + 1 := ⟨Try.prog.types.size - 1, by omega⟩
  unfold keyOf
  simp only [Try.underlying129]
  rw [if_pos (by simp [exKT, Value.formed, Try.underlying129, exCells]), hq]
  unfold Program.keyLits
  simp only [Try.underlying129, Value.cells]
  rw [if_pos (by rw [exCells]; exact ⟨rfl, by kernel_rfl⟩)]
  simp [iCells, jCells, Program.keyLits, Try.underlying2, Try.underlying3, wx, wv, exL]
theorem ex_wf {x : Nat} (h : x ≤ 1000) : (Lit.int .i64 (x : Int)).wf = true := WalkArith.wf_i64 (by omega)
theorem exKeyN {x v : Nat} (hx : x ≤ 1000) (hv : v ≤ 1000) : keyOf Try.prog 129 (.agg #[.int .i64 (x : Int), .int .i64 (v : Int)]) = some (exL x v) := exKey (ex_wf hx) (ex_wf hv)
theorem exL_ne {x v x' v' : Nat} (hx : x ≤ 1000) (hv : v ≤ 1000) (hx' : x' ≤ 1000) (hv' : v' ≤ 1000) (h : ¬ (x = x' ∧ v = v')) : exL (x : Int) (v : Int) ≠ exL (x' : Int) (v' : Int) := fun e => by
  have := exLaw.inj (exKeyN hx hv) (e ▸ exKeyN hx' hv')
  simp only [Value.agg.injEq, Array.mk.injEq, List.cons.injEq, Value.int.injEq] at this
  omega
theorem exKL (x v : Int) : WideAt.IsKeyLit (exL x v) := trivial
/-- The map holds of each duct that E says its two exits, and where each leads; no other exit. -/
def ExIs (M : DataW Unit) (D : Nat → Int × Int) (E : Nat → Bool) : Prop := IsMap M ∧ ∀ x v : Nat, x ≤ 1000 → v ≤ 1000 →
  (Maps.has M (exL x v) = (E v && (x == endA D v || x == endB D v))) ∧
  (E v = true → ∀ z, (x = endA D v → M.atKey (exL x v) z = .lit (.int .i64 (endB D v))) ∧ (x = endB D v → M.atKey (exL x v) z = .lit (.int .i64 (endA D v))))
theorem ex_empty (D : Nat → Int × Int) : ExIs (.map []) D (fun _ => false) := ⟨isMap_empty, fun x v _ _ => ⟨rfl, fun h => by cases h⟩⟩
def onW (E : Nat → Bool) (j : Nat) : Nat → Bool := fun v => if v = j then true else E v
theorem ExIs.lay {M : DataW Unit} {D : Nat → Int × Int} {E : Nat → Bool} {j : Nat} (h : ExIs M D E) (hj : j ≤ 1000) (ha : endA D j ≤ 1000) (hb : endB D j ≤ 1000) (hn : endA D j ≠ endB D j) : ExIs ((M.put (exL (endA D j) j) (.lit (.int .i64 (endB D j)))).put (exL (endB D j) j) (.lit (.int .i64 (endA D j)))) D (onW E j) := by
  refine ⟨(h.1.put _ _).put _ _, fun x v hx hv => ?_⟩
  obtain ⟨h1, h2⟩ := h.2 x v hx hv
  by_cases e : v = j
  · subst e
    by_cases q : x = endB D v
    · subst q
      refine ⟨by rw [has_put_same (h.1.put _ _) (exKL _ _)]; simp [onW], fun _ z => ⟨fun e => absurd e.symm hn, fun _ => atKey_put_same (h.1.put _ _) (exKL _ _) _ _⟩⟩
    · have ne := exL_ne hx hv hb hv (fun e => q e.1)
      by_cases r : x = endA D v
      · subst r
        refine ⟨by rw [has_put_other ne, has_put_same h.1 (exKL _ _)]; simp [onW], fun _ z => ⟨fun _ => by rw [atKey_put_other ne]; exact atKey_put_same h.1 (exKL _ _) _ _, fun e => absurd e q⟩⟩
      · have ne2 := exL_ne hx hv ha hv (fun e => r e.1)
        refine ⟨by rw [has_put_other ne, has_put_other ne2, h1, beq_false_of_ne r, beq_false_of_ne q]; cases E v <;> cases onW E v v <;> rfl, fun _ z => ⟨fun e => absurd e r, fun e => absurd e q⟩⟩
  · have ne := exL_ne hx hv hb hj (fun c => e c.2)
    have ne2 := exL_ne hx hv ha hj (fun c => e c.2)
    have same : onW E j v = E v := by unfold onW; rw [if_neg e]
    rw [same]
    exact ⟨by rw [has_put_other ne, has_put_other ne2, h1], fun hE z => by rw [atKey_put_other ne, atKey_put_other ne2]; exact h2 hE z⟩
theorem ExIs.drop {M : DataW Unit} {D : Nat → Int × Int} {E : Nat → Bool} {j y z : Nat} (h : ExIs M D E) (hj : j ≤ 1000) (hy : y ≤ 1000) (hz : z ≤ 1000) (hyz : (y = endA D j ∧ z = endB D j) ∨ (y = endB D j ∧ z = endA D j)) : ExIs ((M.del (exL y j)).del (exL z j)) D (offW E j) := by
  refine ⟨(h.1.del _).del _, fun x v hx hv => ?_⟩
  obtain ⟨h1, h2⟩ := h.2 x v hx hv
  by_cases e : v = j
  · subst e
    have off : offW E v v = false := by simp [offW]
    rw [off]
    refine ⟨?_, fun c => by cases c⟩
    by_cases q : x = z
    · subst q; rw [has_del_same]; rfl
    · rw [has_del_other (exL_ne hx hv hz hv (fun c => q c.1))]
      by_cases r : x = y
      · subst r; rw [has_del_same]; rfl
      · rw [has_del_other (exL_ne hx hv hy hv (fun c => r c.1)), h1]
        have : ¬ x = endA D v ∧ ¬ x = endB D v := by omega
        simp [this.1, this.2]
  · have same : offW E j v = E v := by unfold offW; rw [if_neg e]
    have ne := exL_ne hx hv hz hj (fun c => e c.2)
    have ne2 := exL_ne hx hv hy hj (fun c => e c.2)
    rw [same]
    exact ⟨by rw [has_del_other ne, has_del_other ne2, h1], fun hE u => by rw [atKey_del_other ne, atKey_del_other ne2]; exact h2 hE u⟩

open Go.RowKit
set_option linter.unusedVariables false
set_option linter.unusedSimpArgs false

def hasB (V : Nat → Int) (n : Nat) (x : Int) : Bool := decide (∃ j, j < n ∧ V j = x)
set_option maxRecDepth 20000 in
set_option maxHeartbeats 1000000 in
theorem index_any (s : Option Addr) (n c : Nat) (V : Nat → Int) (x : Int) (w : World) (hn : (n : Int) ≤ 1048576) (HR : Hid (RowI w s n V)) :
    Calls Try.prog 103 #[.slice s n c, .int .i64 x] w fun e w' => ∃ i, e = .returned (.int .i64 i) ∧ decide (0 ≤ i) = hasB V n x ∧ w' = w := by
  go_enter Try.func103, Try.ntmps103
  go_wp2_with fail
  go_loop [8] (fun i => ∃ k : Nat, k ≤ n ∧ i = .int .i64 k ∧ Hid (∀ j, j < k → V j ≠ x)) (fun i => n - (intOf i).toNat)
  case atStart => exact ⟨0, Nat.zero_le _, rfl, fun j hj => by omega⟩
  case round =>
    obtain ⟨k, hk, rfl, hP⟩ := hrel
    by_cases hlt : k < n
    · obtain ⟨g, o, rfl, hg, c0⟩ := HR.out k hlt
      have k1 : (k : Int) < (n : Int) := by omega
      by_cases q : V k = x
      · have b : (x == V k) = true := by simp [q]
        have HE : Hid (decide ((0 : Int) ≤ (k : Int)) = hasB V n x) := by
          show _ = _
          rw [decide_eq_true (by omega)]
          exact (decide_eq_true ⟨k, hlt, q⟩).symm
        clear q
        go_wp2
        go_ret
        exact ⟨k, rfl, HE.out, rfl⟩
      · have b : (x == V k) = false := by simpa using fun h => q h.symm
        have HQ : Hid (V k ≠ x) := q
        clear q
        go_wp2
        go_round
        case rel => exact ⟨k + 1, by omega, by go_num, fun j hj => by
          by_cases e : j = k
          · subst e; exact HQ.out
          · exact hP.out j (by omega)⟩
        case measure => simp [intOf]; omega
    · obtain rfl : k = n := by omega
      go_wp2
      go_ret
      exact ⟨-1, rfl, by
        rw [decide_eq_false (by omega)]
        exact (decide_eq_false fun ⟨j, h1, h2⟩ => hP.out j h1 h2).symm, rfl⟩
set_option maxHeartbeats 1000000 in
theorem contains_any (s : Option Addr) (n c : Nat) (V : Nat → Int) (x : Int) (w : World) (hn : (n : Int) ≤ 1048576) (HR : Hid (RowI w s n V)) :
    Calls Try.prog 76 #[.slice s n c, .int .i64 x] w fun e w' => e = .returned (.bool (hasB V n x)) ∧ w' = w := by
  go_enter Try.func76, Try.ntmps76
  go_wp2_with fail
  refine (index_any s n c V x _ hn HR).mono ?_
  rintro e w1 ⟨i, rfl, hi, rfl⟩
  go_wp2
  go_ret
  exact ⟨rfl, rfl⟩

open Go.ChangeShapes Go.WideShapes Go.ChangeAt Go.RowKit
set_option linter.unusedVariables false
set_option linter.unusedSimpArgs false

open Go.Maps Go.WideMaps
def opW (n : Nat) (Sh : Nat → Bool) (k v : Nat) : Bool := decide (v < k) && !Sh v
theorem op_shut {n : Nat} {Sh : Nat → Bool} {k : Nat} (h : Sh k = true) : opW n Sh (k + 1) = opW n Sh k := by
  funext v
  unfold opW
  by_cases e : v = k
  · subst e; rw [h]; simp
  · have : decide (v < k + 1) = decide (v < k) := by by_cases q : v < k <;> simp [q] <;> omega
    rw [this]
theorem op_open {n : Nat} {Sh : Nat → Bool} {k : Nat} (h : Sh k = false) : opW n Sh (k + 1) = onW (opW n Sh k) k := by
  funext v
  unfold opW onW
  by_cases e : v = k
  · subst e; rw [h]; simp
  · have : decide (v < k + 1) = decide (v < k) := by by_cases q : v < k <;> simp [q] <;> omega
    rw [this, if_neg e]
theorem has_is (Q : Nat → Int) (n x : Nat) : hasB Q n (x : Int) = hasW Q n x := by
  cases q : hasW Q n x
  · refine decide_eq_false fun h => ?_
    rw [← hasW_iff, q] at h; cases h
  · exact decide_eq_true (hasW_iff.1 q)
set_option maxRecDepth 20000 in
set_option maxHeartbeats 1000000 in
theorem exits_any (p : Int) (s : Option Addr) (n c : Nat) (D : Nat → Int × Int) (t : Option Addr) (m d : Nat) (q : Option Addr) (nq cq : Nat) (Q : Nat → Int) (w : World) (hn : (n : Int) ≤ 40) (hq : (nq : Int) ≤ 1048576) (HD : Hid (RowDuct w s n D)) (HQ : Hid (RowI w q nq Q))
    (HE : Hid (∀ j, j < n → (0 ≤ (D j).1 ∧ (D j).1 ≤ 29) ∧ (0 ≤ (D j).2 ∧ (D j).2 ≤ 29) ∧ (D j).1 ≠ (D j).2)) :
    Calls Try.prog 104 #[.agg #[.int .i64 p, .slice s n c, .slice t m d], .slice q nq cq] w fun e w' => ∃ b M, e = .returned (.map (some b)) ∧ w.heap.size ≤ b ∧ Below w.heap.size w w' ∧ w'.ownsMap Try.prog 129 (plainElem Try.prog 2) (b) (2 * n) M ∧ ExIs M D (opW n (hasW Q nq) n) := by
  have hmm := @run_makeMap Try.prog
  go_enter Try.func104, Try.ntmps104
  go_wp2_with fail
  go_loopw [12] (fun i wr => ∃ k : Nat, ∃ M : DataW Unit, k ≤ n ∧ i = .int .i64 k ∧ Hid (wr.ownsMap Try.prog 129 (plainElem Try.prog 2) (w.heap.size + 1) (2 * k) M) ∧ Hid (ExIs M D (opW n (hasW Q nq) k)) ∧ w.heap.size + 1 < wr.heap.size ∧ Below w.heap.size w wr) (fun i _ => n - (intOf i).toNat)
  case atStart => exact ⟨0, .map [], Nat.zero_le _, rfl, (by show World.ownsMap _ _ _ _ _ _ _; have := World.ownsMap_made (H := Unit) (w.alloc (.cells #[.int .i64 p, .slice s n c, .slice t m d] 41)) Try.prog 129 (plainElem Try.prog 2); simpa using this), (show ExIs _ _ _ from (show opW n (hasW Q nq) 0 = fun _ => false from by funext v; simp [opW]) ▸ ex_empty D), by simp, (by repeat (first | with_reducible exact Below.refl _ _ | with_reducible refine Below.setCell ?_ (by first | omega | (simp; done) | (simp; omega)) _ | with_reducible refine bDrewN ?_ _ | with_reducible refine Below.drew ?_ | with_reducible refine Below.alloc ?_ (by first | omega | (simp; done) | (simp; omega)) _))⟩
  case round =>
    obtain ⟨k, M, hk, rfl, HO, HX, zb, hB⟩ := hrel
    have zW := hB.size
    by_cases h1 : k < n
    · obtain ⟨g, o, rfl, hg, c0, c1⟩ := HD.out k h1
      replace c0 := (hB.cell (p := ⟨g, o + k * 2, none⟩) hg).trans c0
      replace c1 := (hB.cell (p := ⟨g, o + k * 2 + 1, none⟩) hg).trans c1
      obtain ⟨⟨a0, a1⟩, ⟨b0, b1⟩, ab⟩ := HE.out k h1
      obtain ⟨a, ha⟩ : ∃ a : Nat, (D k).1 = (a : Int) := ⟨(D k).1.toNat, by omega⟩
      obtain ⟨b, hb⟩ : ∃ b : Nat, (D k).2 = (b : Int) := ⟨(D k).2.toNat, by omega⟩
      rw [ha] at c0 a1 ab
      rw [hb] at c1 b1 ab
      have HA : Hid (endA D k = a ∧ endB D k = b) := by show _ ∧ _; unfold endA endB; rw [ha, hb]; simp
      have HN : Hid (a ≠ b) := fun e => ab (by rw [e])
      clear ha hb a0 b0 ab
      have zg : g < wr.heap.size := Nat.lt_of_lt_of_le hg hB.size
      have k1 : (k : Int) < (n : Int) := by omega
      have HRQ : Hid (RowI wr q nq Q) := HQ.out.below hB
      cases sh : hasW Q nq k
      · have HX2 : Hid (ExIs ((M.put (exL a k) (.lit (.int .i64 b))).put (exL b k) (.lit (.int .i64 a))) D (opW n (hasW Q nq) (k + 1))) := by
          show ExIs _ _ _
          rw [op_open sh]
          have := HX.out.lay (j := k) (by omega) (by rw [HA.out.1]; omega) (by rw [HA.out.2]; omega) (by rw [HA.out.1, HA.out.2]; exact HN.out)
          rw [HA.out.1, HA.out.2] at this
          exact this
        have HS : Hid (hasB Q nq (k : Int) = false) := (has_is Q nq k).trans sh
        clear sh
        go_wp2_with fail
        refine (contains_any q nq cq Q (k : Int) _ hq (HRQ.out.below (by repeat (first | with_reducible exact Below.refl _ _ | with_reducible refine Below.setCell ?_ (by first | omega | (simp; done) | (simp; omega)) _ | with_reducible refine bDrewN ?_ _ | with_reducible refine Below.drew ?_ | with_reducible refine Below.alloc ?_ (by first | omega | (simp; done) | (simp; omega)) _)))).mono ?_
        rintro e w4 ⟨rfl, rfl⟩
        rw [HS.out]
        go_wp2_with (first
          | (at_mapUpdate; have _t := HO; refine wpList_mapUpdate_own _ rfl _ _ _ 126 rfl 129 2 exLaw Try.underlying126 _ (w.heap.size + 1) (2 * k) _ rfl (HO.out.alloc _) (by unfold maxLen; omega) _ _ _ rfl rfl (exKeyN (x := a) (v := k) (by omega) (by omega)) _ [] (plainElem_int Try.underlying2 (ex_wf (x := b) (by omega))) ?_; intro w5 hown5 hgrow5; have g0 : w5.cell? ⟨wr.heap.size, 0, none⟩ = some (.int .i64 (a : Int)) := (World.cell?_of_block (hgrow5.block wr.heap.size (by simp) (by simp; omega))).trans (by simp [go_sem]); have g1 : w5.cell? ⟨wr.heap.size, 1, none⟩ = some (.int .i64 (b : Int)) := (World.cell?_of_block (hgrow5.block wr.heap.size (by simp) (by simp; omega))).trans (by simp [go_sem]); have B5 : Below w.heap.size w w5 := Below.grown (by repeat (first | with_reducible exact Below.refl _ _ | with_reducible exact hB | with_reducible refine Below.setCell ?_ (by first | omega | (simp; done) | (simp; omega)) _ | with_reducible refine bDrewN ?_ _ | with_reducible refine Below.drew ?_ | with_reducible refine Below.alloc ?_ (by first | omega | (simp; done) | (simp; omega)) _)) hgrow5 (by simp; omega) (fun j hj => by cases hj; omega); have z5 : wr.heap.size + 1 ≤ w5.heap.size := (by have := hgrow5.size; simpa using this); clear HO)
          | (at_mapUpdate; refine wpList_mapUpdate_own _ rfl _ _ _ 126 rfl 129 2 exLaw Try.underlying126 _ (w.heap.size + 1) (2 * k + 1) _ rfl hown5 (by unfold maxLen; omega) _ _ _ rfl rfl (exKeyN (x := b) (v := k) (by omega) (by omega)) _ [] (plainElem_int Try.underlying2 (ex_wf (x := a) (by omega))) ?_; intro w6 hown6 hgrow6))
        have B6 : Below w.heap.size w w6 := B5.grown hgrow6 (by omega) (fun j hj => by cases hj; omega)
        have z6 := hgrow6.size
        go_roundw
        case rel => exact ⟨k + 1, _, by omega, by go_num, hown6.mono (by omega), HX2.out, by omega, B6⟩
        case measure => first | (simp [intOf]; done) | (simp [intOf]; omega)
      · have HX2 : Hid (ExIs M D (opW n (hasW Q nq) (k + 1))) := by show ExIs _ _ _; rw [op_shut sh]; exact HX.out
        have HS : Hid (hasB Q nq (k : Int) = true) := (has_is Q nq k).trans sh
        clear sh
        go_wp2_with fail
        refine (contains_any q nq cq Q (k : Int) _ hq (HRQ.out.below (by repeat (first | with_reducible exact Below.refl _ _ | with_reducible refine Below.setCell ?_ (by first | omega | (simp; done) | (simp; omega)) _ | with_reducible refine bDrewN ?_ _ | with_reducible refine Below.drew ?_ | with_reducible refine Below.alloc ?_ (by first | omega | (simp; done) | (simp; omega)) _)))).mono ?_
        rintro e w4 ⟨rfl, rfl⟩
        rw [HS.out]
        go_wp2
        go_roundw
        case rel => exact ⟨k + 1, M, by omega, by go_num, (HO.out.alloc _).mono (by omega), HX2.out, by simp; omega, (by repeat (first | with_reducible exact Below.refl _ _ | with_reducible exact hB | with_reducible refine Below.setCell ?_ (by first | omega | (simp; done) | (simp; omega)) _ | with_reducible refine bDrewN ?_ _ | with_reducible refine Below.drew ?_ | with_reducible refine Below.alloc ?_ (by first | omega | (simp; done) | (simp; omega)) _))⟩
        case measure => first | (simp [intOf]; done) | (simp [intOf]; omega)
    · obtain rfl : k = n := by omega
      go_wp2
      go_ret
      exact ⟨_, M, rfl, by omega, hB, HO.out, HX.out⟩

open Go.ChangeShapes Go.WideShapes Go.ChangeAt Go.RowKit
set_option linter.unusedVariables false
set_option linter.unusedSimpArgs false

open Go.Maps Go.WideMaps
theorem below_grown {w w' : World} (h : Below w.heap.size w w') : w.grownBy w' none := ⟨h.os, h.tape, h.output, h.size, fun k hk _ => h.block k hk⟩
theorem owns_monoC {w : World} {base base' : Nat} {e : TypeId} {size : Nat} {v : Value} {n : Nat} {xs : List Value} (h : w.ownsRow base e size v n xs) (hb : base' ≤ base) : w.ownsRow base' e size v n xs :=
  ⟨h.1, h.2.imp id fun ⟨g, cap, cur, h1, h2, h3⟩ => ⟨g, cap, cur, h1, Nat.le_trans hb h2, h3⟩⟩
def lsOf (V : Nat → Int) (n : Nat) : List Int := (List.range n).map V
theorem ls_len (V : Nat → Int) (n : Nat) : (lsOf V n).length = n := by simp [lsOf]
theorem ls_vals (V : Nat → Int) (n : Nat) : vals V n = cellsOf (lsOf V n) := by simp [lsOf, vals, cellsOf]
theorem ls_nth (V : Nat → Int) {n i : Nat} (h : i < n) : nthI (lsOf V n) i = V i := by simp [lsOf, nthI, h]
theorem row_addC {w : World} {ad : Addr} {n : Nat} {V : Nat → Int} (R : RowI w (some ad) n V) : ∀ j u, (vals V n)[j]? = some u → w.cell? (ad.add j) = some u := fun j u hu => by
  have hj : j < n := by
    rcases Nat.lt_or_ge j n with h | h
    · exact h
    · rw [List.getElem?_eq_none (by rw [vals_length]; exact h)] at hu; cases hu
  rw [vals_at V hj] at hu
  cases hu
  obtain ⟨b, o, e, _, hc⟩ := R j hj
  cases e
  have : (⟨b, o, none⟩ : Addr).add j = ⟨b, o + j, none⟩ := by
    unfold Addr.add
    split
    · rename_i h; subst h; rfl
    · rfl
  rw [this]
  exact hc
theorem list_cloneC {ops : Array Oper} {rest : List Oper} {o : Oper} {a : Act} {Q : Exit → Act → World → Prop} {W : World} (H : Nat) (ad : Addr) (n c : Nat) (V : Nat → Int) (s z : Operand) (hgd : o.guard = none)
    (ho : o.op = .call { callee := .builtin .append, args := #[s, z], argTypes := #[23, 23] }) (hs : a.eval s = .slice (some ⟨H, 0, none⟩) 0 0) (hx : a.eval z = .slice (some ad) n c) (hH : W.heap.size = H) (hn : n ≤ 1048576) (R : RowI W (some ad) n V)
    (h : ∀ v w', w'.ownsRow W.heap.size 2 1 v n (vals V n) → Below W.heap.size W w' → wpList Try.prog ops Q rest (a.put o.dst v) w') :
    wpList Try.prog ops Q (o :: rest) a (W.alloc (.cells #[] 2)) := by
  subst hH
  obtain ⟨i0, hi, hz0, hz1, hz2⟩ := info_parts info_i64
  have hm := made_lit W V (Nat.le_refl _)
  have R' : RowI (W.alloc (.cells #[] 2)) (some ad) n V := R.below (by repeat (first | with_reducible exact Below.refl _ _ | with_reducible refine Below.setCell ?_ (by first | omega | (simp; done) | (simp; omega)) _ | with_reducible refine bDrewN ?_ _ | with_reducible refine Below.drew ?_ | with_reducible refine Below.alloc ?_ (by first | omega | (simp; done) | (simp; omega)) _))
  refine wpList_append_own _ hgd s z 23 ho W.heap.size 2 i0 (.int .i64 0) 1 8 Try.underlying23 hi hz0 hz1 hz2 rfl (by decide) _ 0 [] hs hm.1 ad n c (vals V n) hx (by rw [vals_length, Nat.mul_one]) (row_addC R') ?_ (by unfold maxLen; omega) (by omega) (by simp) ?_
  · intro u hu
    simp only [vals, List.mem_map] at hu
    obtain ⟨j, _, rfl⟩ := hu
    rfl
  · intro v' w' h2 h3 _
    rw [Nat.zero_add, List.nil_append] at h2
    exact h v' w' h2 (hm.2.trans (grown_below h3 (by simp) (own_block hm.1)))
theorem eq_nilC (ad : Addr) (n c : Nat) (w : World) : (binOp .eql 23 (.slice (some ad) n c) (.slice none 0 0)).run Try.prog w = .ok (.bool false) w := by kernel_rfl
theorem eq_nil0 (c : Nat) (w : World) : (binOp .eql 23 (.slice none 0 c) (.slice none 0 0)).run Try.prog w = .ok (.bool true) w := by kernel_rfl
set_option maxHeartbeats 1000000 in
theorem cloneC (s : Option Addr) (n c : Nat) (V : Nat → Int) (w : World) (hn : (n : Int) ≤ 1048576) (HR : Hid (RowI w s n V)) :
    Calls Try.prog 95 #[.slice s n c] w fun e w' => ∃ v, e = .returned v ∧ w'.ownsRow w.heap.size 2 1 v (lsOf V n).length (cellsOf (lsOf V n)) ∧ Below w.heap.size w w' := by
  rw [← ls_vals, ls_len]
  cases s with
  | none =>
    obtain rfl : n = 0 := by
      rcases Nat.eq_zero_or_pos n with h | h
      · exact h
      · obtain ⟨b, o, e, _⟩ := HR.out 0 h; cases e
    have hEq := eq_nil0 c
    go_enter Try.func95, Try.ntmps95
    go_wp2
    go_ret
    exact ⟨_, rfl, World.ownsRow_nil _ _ _ _, Below.refl _ _⟩
  | some ad =>
    have hEq := eq_nilC ad n c
    go_enter Try.func95, Try.ntmps95
    go_wp2_with (first | (refine list_cloneC _ ad n c V _ _ (by rfl) (by rfl) (by rfl) (by rfl) rfl (by omega) HR.out ?_; intro v w' O h))
    go_ret
    exact ⟨v, rfl, O, h⟩
def RcAt (w0 wx : World) (bm N : Nat) (M : DataW Unit) (v : Value) (L : List Int) : Prop := wx.ownsMap Try.prog 129 (plainElem Try.prog 2) (bm) (N) M ∧ wx.ownsRow w0.heap.size 2 1 v L.length (cellsOf L) ∧ some bm ≠ v.ownBlock ∧ w0.heap.size ≤ bm ∧ Below w0.heap.size w0 wx
theorem RcAt.keep {w0 wx w3 : World} {bm N : Nat} {M : DataW Unit} {v : Value} {L : List Int} (h : RcAt w0 wx bm N M v L) (hb : Below wx.heap.size wx w3) : RcAt w0 w3 bm N M v L :=
  ⟨h.1.kept (below_grown hb) (by simp), own_same h.2.1 fun g hg => hb.block g (h.2.1.lt g hg).2, h.2.2.1, h.2.2.2.1, h.2.2.2.2.trans (hb.mono h.2.2.2.2.size)⟩
theorem RcAt.turn {w0 wx w3 : World} {bm N : Nat} {M M' : DataW Unit} {v : Value} {L : List Int} (h : RcAt w0 wx bm N M v L) (ho : w3.ownsMap Try.prog 129 (plainElem Try.prog 2) (bm) (N) M') (hg : wx.grownBy w3 (some bm)) : RcAt w0 w3 bm N M' v L :=
  ⟨ho, own_same h.2.1 fun g hq => hg.block g (h.2.1.lt g hq).2 (fun e => h.2.2.1 (by rw [← e, hq])), h.2.2.1, h.2.2.2.1, h.2.2.2.2.grown hg h.2.2.2.2.size (fun j hj => by cases hj; exact h.2.2.2.1)⟩
theorem RcAt.more {w0 wx w3 : World} {bm N : Nat} {M : DataW Unit} {v : Value} {L : List Int} {g cap : Nat} {x : Int} (h : RcAt w0 wx bm N M v L) (ho : w3.ownsRow w0.heap.size 2 1 (.slice (some ⟨g, 0, none⟩) (L.length + 1) cap) (L.length + 1) (cellsOf L ++ [.int .i64 x])) (hg : wx.grownBy w3 v.ownBlock) (hat : v.ownBlock = some g ∨ wx.heap.size < g) : RcAt w0 w3 bm N M (.slice (some ⟨g, 0, none⟩) (L.length + 1) cap) (L ++ [x]) := by
  have lt := h.1.lt
  refine ⟨h.1.kept hg h.2.2.1, by rw [cellsOf_snoc]; simpa using ho, ?_, h.2.2.2.1, h.2.2.2.2.trans (grown_below hg h.2.2.2.2.size (own_block h.2.1))⟩
  intro e
  have e' : bm = g := by simpa [Value.ownBlock] using e
  rcases hat with q | q
  · exact h.2.2.1 (by rw [q, e'])
  · omega
theorem rc_of1 {w0 w3 w4 : World} {bm N b4 : Nat} {M : DataW Unit} {v : Value} {L : List Int} (O3 : w3.ownsMap Try.prog 129 (plainElem Try.prog 2) (bm) (N) M) (h3 : Below w0.heap.size w0 w3) (zb : w0.heap.size ≤ bm) (h34 : Below w3.heap.size w3 w4) (O4 : w4.ownsRow b4 2 1 v L.length (cellsOf L)) (hb4 : w3.heap.size ≤ b4) : RcAt w0 w4 bm N M v L :=
  ⟨O3.kept (below_grown h34) (by simp), owns_monoC O4 (Nat.le_trans h3.size hb4), fun e => by have := (O4.lt bm e.symm).1; have := O3.lt; omega, zb, h3.trans (h34.mono h3.size)⟩
theorem rc_of2 {w0 w3 w4 : World} {bm N b4 : Nat} {M : DataW Unit} {v : Value} {L : List Int} (O4 : w4.ownsRow b4 2 1 v L.length (cellsOf L)) (hb4 : w0.heap.size ≤ b4) (h4 : Below w0.heap.size w0 w4) (h43 : Below w4.heap.size w4 w3) (O3 : w3.ownsMap Try.prog 129 (plainElem Try.prog 2) (bm) (N) M) (zb : w4.heap.size ≤ bm) : RcAt w0 w3 bm N M v L :=
  ⟨O3, own_same (owns_monoC O4 hb4) fun g hg => h43.block g (O4.lt g hg).2, fun e => by have := (O4.lt bm e.symm).2; omega, Nat.le_trans h4.size zb, h4.trans (h43.mono h4.size)⟩
theorem reach_lt {n P : Nat} {D : Nat → Int × Int} {Sh W0 : Nat → Bool} (hD : ∀ j, j < n → endA D j < P ∧ endB D j < P) (hW : ∀ x, W0 x = true → x < P) {x : Nat} (h : Reach n D Sh W0 x) : x < P := h (fun x => x < P) hW (fun j hj _ _ => (hD j hj).2) (fun j hj _ _ => (hD j hj).1)
theorem went_op {n : Nat} {D : Nat → Int × Int} {Sh : Nat → Bool} {m : Nat} {S : Nat → Int} (hS : ∀ i, i < m → 0 ≤ S i) : Went n D Sh (hasW S m) (m + cntW (opW n Sh n) n) (lsOf S m) (opW n Sh n) 0 0 :=
  { went_start (D := D) (Sh := Sh) (n := n) (ls_len S m) (fun i hi => ls_nth S hi) hS with
    opn := fun v hv h => by simp [opW] at h; exact h.2
    gone := fun v hv h h2 => by simp [opW, hv, h] at h2
    done := fun i hi => by omega
    here := fun v hv => by omega
    cnt := by rw [ls_len] }

open Go.RowKit
set_option linter.unusedVariables false
set_option linter.unusedSimpArgs false

def RowB (w : World) (s : Option Addr) (m : Nat) (V : Nat → Bool) : Prop := ∀ j, j < m → ∃ b o, s = some ⟨b, o, none⟩ ∧ b < w.heap.size ∧ w.cell? ⟨b, o + j, none⟩ = some (.bool (V j))
theorem RowB.below {w w' : World} {s : Option Addr} {m : Nat} {V : Nat → Bool} (h : RowB w s m V) (hb : Below w.heap.size w w') : RowB w' s m V := fun j hj => by
  obtain ⟨b, o, e, hl, hc⟩ := h j hj
  exact ⟨b, o, e, Nat.lt_of_lt_of_le hl hb.size, (hb.cell (p := ⟨b, o + j, none⟩) hl).trans hc⟩
def OwnB (base : Nat) (w : World) (s : Option Addr) (m : Nat) (V : Nat → Bool) : Prop := ∀ j, j < m → ∃ b, s = some ⟨b, 0, none⟩ ∧ base ≤ b ∧ b < w.heap.size ∧ w.cell? ⟨b, j, none⟩ = some (.bool (V j)) ∧ w.frozen? ⟨b, j, none⟩ = false
theorem OwnB.row {base : Nat} {w : World} {s : Option Addr} {m : Nat} {V : Nat → Bool} (h : OwnB base w s m V) : RowB w s m V := fun j hj => by
  obtain ⟨b, e, _, hl, hc, _⟩ := h j hj
  exact ⟨b, 0, e, hl, by rw [Nat.zero_add]; exact hc⟩
theorem OwnB.below {base : Nat} {w w' : World} {s : Option Addr} {m : Nat} {V : Nat → Bool} (h : OwnB base w s m V) (hb : Below w.heap.size w w') : OwnB base w' s m V := fun j hj => by
  obtain ⟨b, e, hB, hl, hc, hf⟩ := h j hj
  exact ⟨b, e, hB, Nat.lt_of_lt_of_le hl hb.size, (hb.cell (p := ⟨b, j, none⟩) hl).trans hc, (hb.frozen (p := ⟨b, j, none⟩) hl).trans hf⟩
theorem OwnB.mono {base base' : Nat} {w : World} {s : Option Addr} {m : Nat} {V : Nat → Bool} (h : OwnB base w s m V) (hb : base' ≤ base) : OwnB base' w s m V := fun j hj => by
  obtain ⟨b, e, hB, r⟩ := h j hj
  exact ⟨b, e, by omega, r⟩
theorem OwnB.congr {base : Nat} {w : World} {s : Option Addr} {m : Nat} {V U : Nat → Bool} (h : OwnB base w s m V) (e : ∀ j, j < m → V j = U j) : OwnB base w s m U := fun j hj => by
  rw [← e j hj]; exact h j hj
theorem OwnB.beside {base r : Nat} {w w' : World} {s : Option Addr} {m : Nat} {V : Nat → Bool} (h : OwnB base w s m V) (hb : Beside r w w') (hr : r < base) : OwnB base w' s m V := fun j hj => by
  obtain ⟨b, e, hB, hl, hc, hf⟩ := h j hj
  exact ⟨b, e, hB, Nat.lt_of_lt_of_le hl hb.2.2.2.1, (hb.cell (p := ⟨b, j, none⟩) hl (by simp only; omega)).trans hc, (hb.frozen (p := ⟨b, j, none⟩) hl (by simp only; omega)).trans hf⟩
theorem make_bool (n : Nat) (hn : n ≤ 1048576) (w : World) : (Instr.makeSlice 112 (.int .i64 (n : Int)) (.int .i64 (n : Int))).run Try.prog w = .ok (.slice (some ⟨w.heap.size, 0, none⟩) n n) (w.alloc (.cells (madeCells #[.bool false] n) 4)) := by
  have hinfo : (Try.prog.info? 4).map (fun i => (i.zero, i.size, i.bytes)) = some (some (.bool false), 1, 1) := by kernel_rfl
  obtain ⟨i, hi, hzz⟩ := Option.map_eq_some_iff.1 hinfo
  simp only [Prod.mk.injEq] at hzz
  obtain ⟨hz, hs, hb⟩ := hzz
  have hr := run_make (P := Try.prog) w 112 4 i _ Try.underlying112 hi hz .i64 .i64 n n (by omega) (Int.le_refl _) (by rw [hb]; omega) (by omega)
  simp only [Int.toNat_natCast, hs, Nat.mul_one] at hr
  exact hr
/-- A row on its way: of n cells the first k are V, the others 0, in the block at the end of w. -/
def BowTo (w wr : World) (n k : Nat) (V : Nat → Bool) : Prop := Below w.heap.size w wr ∧ w.heap.size < wr.heap.size ∧ (∀ o, wr.frozen? ⟨w.heap.size, o, none⟩ = false) ∧ ∀ j, j < n → wr.cell? ⟨w.heap.size, j, none⟩ = some (.bool (if j < k then V j else false))
theorem bowTo_start (w : World) (n : Nat) (V : Nat → Bool) (t : TypeId) : BowTo w (w.alloc (.cells (madeCells #[.bool false] n) t)) n 0 V := by
  refine ⟨below0 _ _, by simp, fun o => by simp [go_sem], fun j hj => ?_⟩
  have hm : (madeCells #[.bool false] n)[j]? = some (.bool false) := by
    simp only [madeCells, Array.getElem?_map, Array.getElem?_range, hj, if_true, Option.map_some]
    show some ((#[Value.bool false] : Array Value)[j % 1]!) = _
    rw [Nat.mod_one]; rfl
  rw [if_neg (by omega)]
  simpa [go_sem] using hm
end Go.Proofs.Ytikcfpjfcpbfcaa
