/-
What is proved: what machines give by their merit, in numbers.
-/
import Derived.Test.YtdlbniihgppodaaIsW
import Derived.Test.YtdlbniihgppodaaSb
import Derived.Test.YtdlbniihgppodaaPltR
namespace Go.Proofs.Ytdlbniihgppodaa
set_option maxRecDepth 40000
open Go.ChangeShapes Go.WideShapes Go.ChangeAt Go.RowKit
set_option linter.unusedVariables false
set_option linter.unusedSimpArgs false

def plB (z : Int × Int × Int × Int × Int) : Bool := inB 0 100000 z.2.1 && (inB 0 z.2.1 z.1 && (inB 0 10000 z.2.2.1 && (inB 0 100000000 z.2.2.2.1 && inB 1 10 z.2.2.2.2)))
theorem pl_yes {z : Int × Int × Int × Int × Int} (h : plB z = true) : (0 ≤ z.2.1 ∧ z.2.1 ≤ 100000) ∧ (0 ≤ z.1 ∧ z.1 ≤ z.2.1) ∧ (0 ≤ z.2.2.1 ∧ z.2.2.1 ≤ 10000) ∧ (0 ≤ z.2.2.2.1 ∧ z.2.2.2.1 ≤ 100000000) ∧ (1 ≤ z.2.2.2.2 ∧ z.2.2.2.2 ≤ 10) := by
  unfold plB at h
  simp only [Bool.and_eq_true] at h
  exact ⟨inB_yes h.1, inB_yes h.2.1, inB_yes h.2.2.1, inB_yes h.2.2.2.1, inB_yes h.2.2.2.2⟩
def plsB (n : Nat) (V : Nat → Int × Int × Int × Int × Int) : Bool := inB 1 3 (n : Int) && decide (∀ i, i < n → plB (V i) = true)
theorem pls_yes {n : Nat} {V : Nat → Int × Int × Int × Int × Int} (h : plsB n V = true) : 1 ≤ n ∧ n ≤ 3 ∧ ∀ i, i < n → plB (V i) = true := by
  unfold plsB at h
  simp only [Bool.and_eq_true, decide_eq_true_iff] at h
  have := inB_yes h.1
  exact ⟨by omega, by omega, h.2⟩
theorem pls_no {n k : Nat} {V : Nat → Int × Int × Int × Int × Int} (hk : k < n) (h : plB (V k) = false) : plsB n V = false := by
  unfold plsB
  have : decide (∀ i, i < n → plB (V i) = true) = false := decide_eq_false fun q => by have := q k hk; rw [h] at this; cases this
  rw [this]; simp
def sumF (f : Nat → Int) : Nat → Int
  | 0 => 0
  | n + 1 => sumF f n + f n
theorem sum_same {f g : Nat → Int} {n : Nat} (h : ∀ j, j < n → f j = g j) : sumF f n = sumF g n := by
  induction n with
  | zero => rfl
  | succ n ih => unfold sumF; rw [ih (fun j hj => h j (by omega)), h n (by omega)]
theorem sum_point {f g : Nat → Int} {n i : Nat} (hi : i < n) (h : ∀ j, j < n → j ≠ i → f j = g j) : sumF f n = sumF g n + (f i - g i) := by
  induction n with
  | zero => omega
  | succ n ih =>
    unfold sumF
    by_cases e : i = n
    · subst e
      rw [sum_same (fun j hj => h j (by omega) (by omega))]
      omega
    · rw [ih (by omega) (fun j hj => h j (by omega)), h n (by omega) (Ne.symm e)]
      omega
theorem sum_in {f : Nat → Int} {n : Nat} {M : Int} (h : ∀ j, j < n → 0 ≤ f j ∧ f j ≤ M) : 0 ≤ sumF f n ∧ sumF f n ≤ n * M := by
  induction n with
  | zero => exact ⟨Int.le_refl _, by simp [sumF]⟩
  | succ n ih =>
    have h1 := ih (fun j hj => h j (by omega))
    have h2 := h n (by omega)
    unfold sumF
    have : ((n + 1 : Nat) : Int) * M = n * M + M := by rw [Int.natCast_add, Int.add_mul]; simp
    omega
theorem sum_le {f g : Nat → Int} {n : Nat} (h : ∀ j, j < n → f j ≤ g j) : sumF f n ≤ sumF g n := by
  induction n with
  | zero => exact Int.le_refl _
  | succ n ih =>
    have h1 := ih (fun j hj => h j (by omega))
    have h2 := h n (by omega)
    unfold sumF; omega
theorem sum_add (f g : Nat → Int) (n : Nat) : sumF (fun j => f j + g j) n = sumF f n + sumF g n := by
  induction n with
  | zero => rfl
  | succ n ih => unfold sumF; rw [ih]; omega
theorem sum_mono {f : Nat → Int} {k n : Nat} (hk : k ≤ n) (h : ∀ j, j < n → 0 ≤ f j) : sumF f k ≤ sumF f n := by
  induction n with
  | zero => obtain rfl : k = 0 := by omega
            exact Int.le_refl _
  | succ n ih =>
    by_cases e : k = n + 1
    · subst e; exact Int.le_refl _
    · have h1 := ih (by omega) (fun j hj => h j (by omega))
      have h2 := h n (by omega)
      show sumF f k ≤ sumF f n + f n
      omega
def lsF (V : Nat → Int × Int × Int × Int × Int) (O : Nat → Bool) (i : Nat) : Int := if O i = true then (V i).1 else 0
def msF (V : Nat → Int × Int × Int × Int × Int) (O : Nat → Bool) (i : Nat) : Int := if O i = true then (V i).2.1 else 0
def cpF (V : Nat → Int × Int × Int × Int × Int) (O : Nat → Bool) (i : Nat) : Int := if O i = true then (V i).2.1 - (V i).1 else 0
def csF (V : Nat → Int × Int × Int × Int × Int) (i : Nat) : Int := (V i).2.2.1
theorem ls_in {V : Nat → Int × Int × Int × Int × Int} {O : Nat → Bool} {n : Nat} (h : ∀ i, i < n → plB (V i) = true) : ∀ j, j < n → (0 ≤ lsF V O j ∧ lsF V O j ≤ 100000) ∧ (0 ≤ msF V O j ∧ msF V O j ≤ 100000) ∧ (0 ≤ cpF V O j ∧ cpF V O j ≤ 100000) ∧ lsF V O j + cpF V O j = msF V O j := fun j hj => by
  have := pl_yes (h j hj)
  unfold lsF msF cpF
  split <;> omega
def selB (C : Nat → Int) (c : Int) (i j : Nat) : Bool := decide (C j < c) || (decide (C j = c) && decide (j < i))
theorem sel_iff {C : Nat → Int} {c : Int} {i j : Nat} : selB C c i j = true ↔ C j < c ∨ (C j = c ∧ j < i) := by unfold selB; simp
def befF (C cap : Nat → Int) (n : Nat) (c : Int) (i : Nat) : Int := sumF (fun j => if selB C c i j = true then cap j else 0) n
def lfV (L s : Int) : Int := max (L - s) 0
theorem lf_take {L s q : Int} (hq : 0 ≤ q) : lfV L s - min (lfV L s) q = lfV L (s + q) := by unfold lfV; omega
def givV (L : Int) (C cap : Nat → Int) (n i : Nat) : Int := min (lfV L (befF C cap n (C i) i)) (cap i)
def outV (n : Nat) (V : Nat → Int × Int × Int × Int × Int) (O : Nat → Bool) (ld : Int) (i : Nat) : Int := lsF V O i + givV (ld - sumF (lsF V O) n) (csF V) (cpF V O) n i
def meB (n : Nat) (V : Nat → Int × Int × Int × Int × Int) (O : Nat → Bool) (no : Nat) (ld : Int) : Bool := plsB n V && (decide (no = n) && (decide (sumF (lsF V O) n ≤ ld) && decide (ld ≤ sumF (msF V O) n)))
def meN (n : Nat) (V : Nat → Int × Int × Int × Int × Int) (O : Nat → Bool) (no : Nat) (ld : Int) : Nat := if meB n V O no ld = true then n else 0
theorem giv_in {L : Int} {C cap : Nat → Int} {n i : Nat} (hc : 0 ≤ cap i) : 0 ≤ givV L C cap n i ∧ givV L C cap n i ≤ cap i := by unfold givV lfV; omega
theorem bef_step {C cap : Nat → Int} {n i : Nat} {c : Int} (hi : i < n) : befF C cap n c (i + 1) = befF C cap n c i + (if C i = c then cap i else 0) := by
  unfold befF
  rw [sum_point (i := i) (g := fun j => if selB C c i j = true then cap j else 0) hi (fun j hj ne => by
    have : selB C c (i + 1) j = selB C c i j := by
      cases q : selB C c i j
      · cases r : selB C c (i + 1) j
        · rfl
        · rw [sel_iff] at r
          have : selB C c i j = true := sel_iff.2 (by omega)
          rw [q] at this; cases this
      · exact sel_iff.2 (by have := sel_iff.1 q; omega)
    show (if selB C c (i + 1) j = true then cap j else 0) = _
    rw [this])]
  have a : selB C c (i + 1) i = decide (C i ≤ c) := by unfold selB; by_cases h1 : C i < c <;> by_cases h2 : C i = c <;> simp [h1, h2] <;> omega
  have b : selB C c i i = decide (C i < c) := by unfold selB; simp
  try dsimp only
  rw [a, b]
  by_cases h1 : C i < c
  · simp [h1, Int.le_of_lt h1]; omega
  · by_cases h2 : C i = c
    · simp [h2]
    · have h3 : ¬ C i ≤ c := by omega
      simp [h1, h2, h3]
theorem bef_next {C cap : Nat → Int} {n : Nat} {c : Int} : befF C cap n c n = befF C cap n (c + 1) 0 := by
  unfold befF
  refine sum_same fun j hj => ?_
  have : selB C c n j = selB C (c + 1) 0 j := by
    cases q : selB C (c + 1) 0 j
    · cases r : selB C c n j
      · rfl
      · have h := sel_iff.1 r
        have : selB C (c + 1) 0 j = true := sel_iff.2 (by omega)
        rw [q] at this; cases this
    · have h := sel_iff.1 q
      exact sel_iff.2 (by omega)
  rw [this]
theorem bef_none {C cap : Nat → Int} {n : Nat} (h : ∀ j, j < n → 0 ≤ C j) : befF C cap n 0 0 = 0 := by
  unfold befF
  have : sumF (fun j => if selB C 0 0 j = true then cap j else 0) n = sumF (fun _ => 0) n := sum_same fun j hj => by
    have : selB C 0 0 j = false := by
      cases q : selB C 0 0 j
      · rfl
      · have := sel_iff.1 q; have := h j hj; omega
    rw [this]; rfl
  rw [this]
  have : ∀ m, sumF (fun _ => (0 : Int)) m = 0 := fun m => by
    induction m with
    | zero => rfl
    | succ m ih => unfold sumF; rw [ih]; rfl
  exact this n
theorem bef_all {C cap : Nat → Int} {n : Nat} {c : Int} (h : ∀ j, j < n → C j < c) : befF C cap n c 0 = sumF cap n := by
  unfold befF
  refine sum_same fun j hj => ?_
  rw [sel_iff.2 (Or.inl (h j hj))]
  rfl
def dnB (T : Nat → Nat) : Nat → Nat → Bool
  | 0, _ => false
  | k + 1, j => dnB T k j || decide (T k = j)
theorem dn_iff {T : Nat → Nat} {k j : Nat} : dnB T k j = true ↔ ∃ l, l < k ∧ T l = j := by
  induction k with
  | zero => simp [dnB]
  | succ k ih =>
    unfold dnB
    rw [Bool.or_eq_true, ih, decide_eq_true_iff]
    constructor
    · rintro (⟨l, h1, h2⟩ | h)
      · exact ⟨l, by omega, h2⟩
      · exact ⟨k, by omega, h⟩
    · rintro ⟨l, h1, h2⟩
      by_cases e : l = k
      · right; rw [← e]; exact h2
      · left; exact ⟨l, by omega, h2⟩
theorem dn_sel {C : Nat → Int} {n k j : Nat} {T : Nat → Nat} (h : InsB C n n T) (hk : k < n) (hj : j < n) : selB C (C (T k)) (T k) j = dnB T k j := by
  obtain ⟨h1, h2, h3, -⟩ := h
  obtain ⟨l, hl, rfl⟩ := h3 j hj
  have lx : ∀ a b, a < n → b < n → T a = T b → a = b := fun a b ha hb e => by
    rcases Nat.lt_trichotomy a b with q | q | q
    · have := h1 a b q hb; rw [e] at this; exact (ltx_irr this).elim
    · exact q
    · have := h1 b a q ha; rw [e] at this; exact (ltx_irr this).elim
  cases q : dnB T k (T l)
  · cases r : selB C (C (T k)) (T k) (T l)
    · rfl
    · have hx : ltx C (T l) (T k) := sel_iff.1 r
      rcases Nat.lt_or_ge l k with hlk | hlk
      · have : dnB T k (T l) = true := dn_iff.2 ⟨l, hlk, rfl⟩
        rw [q] at this; cases this
      · by_cases e : l = k
        · subst e; exact (ltx_irr hx).elim
        · exact (ltx_irr (ltx_trans hx (h1 k l (by omega) hl))).elim
  · obtain ⟨l', h4, h5⟩ := dn_iff.1 q
    obtain rfl := lx l' l (by omega) hl h5
    exact sel_iff.2 (h1 l' k h4 hk)
def dsF (T : Nat → Nat) (cap : Nat → Int) (n k : Nat) : Int := sumF (fun j => if dnB T k j = true then cap j else 0) n
theorem ds_bef {C cap : Nat → Int} {n k : Nat} {T : Nat → Nat} (h : InsB C n n T) (hk : k < n) : dsF T cap n k = befF C cap n (C (T k)) (T k) := by
  unfold dsF befF
  refine sum_same fun j hj => ?_
  rw [dn_sel h hk hj]
theorem ds_step {C cap : Nat → Int} {n k : Nat} {T : Nat → Nat} (h : InsB C n n T) (hk : k < n) : dsF T cap n (k + 1) = dsF T cap n k + cap (T k) := by
  unfold dsF
  have hT := h.2.1 k hk
  have no : dnB T k (T k) = false := by
    cases q : dnB T k (T k)
    · rfl
    · obtain ⟨l, h4, h5⟩ := dn_iff.1 q
      have := h.1 l k h4 hk
      rw [h5] at this
      exact (ltx_irr this).elim
  rw [sum_point (i := T k) (g := fun j => if dnB T k j = true then cap j else 0) hT (fun j hj ne => by
    show (if (dnB T k j || decide (T k = j)) = true then cap j else 0) = _
    rw [decide_eq_false (Ne.symm ne), Bool.or_false])]
  try dsimp only
  rw [no]
  have : dnB T (k + 1) (T k) = true := dn_iff.2 ⟨k, by omega, rfl⟩
  rw [this]
  simp
theorem ds_none (T : Nat → Nat) (cap : Nat → Int) (n : Nat) : dsF T cap n 0 = 0 := by
  unfold dsF
  induction n with
  | zero => rfl
  | succ n ih => unfold sumF; rw [ih]; simp [dnB]
theorem dn_all {C : Nat → Int} {n j : Nat} {T : Nat → Nat} (h : InsB C n n T) (hj : j < n) : dnB T n j = true := dn_iff.2 (by obtain ⟨k, h1, h2⟩ := h.2.2.1 j hj; exact ⟨k, h1, h2⟩)
def MePost (w : World) (n : Nat) (U : Nat → Int) (b : Bool) (e : Ending) (w' : World) : Prop := ∃ s cap, e = .returned (.tuple #[.slice s n cap, .bool b]) ∧ OwnI w.heap.size w' s n U ∧ Below w.heap.size w w'
theorem me_none {w w' : World} {n : Nat} {U : Nat → Int} {b : Bool} {s : Option Addr} {c : Nat} (hn : n = 0) (hb : b = false) (h : Below w.heap.size w w') : MePost w n U b (.returned (.tuple #[.slice s 0 c, .bool false])) w' := by
  subst hn hb
  exact ⟨s, c, rfl, fun j hj => by omega, h⟩
end Go.Proofs.Ytdlbniihgppodaa
