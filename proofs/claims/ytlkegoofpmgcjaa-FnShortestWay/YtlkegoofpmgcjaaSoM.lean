/-
What is proved: the shortest way, worked back from the last step: lists alone.
-/
import Derived.Test.YtlkegoofpmgcjaaBnM
namespace Go.Proofs.Ytlkegoofpmgcjaa
set_option maxRecDepth 40000
open Go.ChangeShapes Go.WideShapes Go.ChangeAt Go.RowKit
set_option linter.unusedVariables false
set_option linter.unusedSimpArgs false

abbrev Rte := Bool × List Int
def ltL : List Int → List Int → Bool
  | x :: a, y :: b => if x < y then true else if y < x then false else ltL a b
  | [], _ => false
  | _ :: _, [] => false
def caB (a b : List Int) : Bool := if a.length = b.length then ltL a b else decide (a.length < b.length)
def btR (a b : Rte) : Rte := if (b.1 && (!a.1 || caB b.2 a.2)) = true then b else a
def frR (r : Rte) (p : Int) : Rte := if r.1 = true then (true, p :: r.2) else (false, [])
def gR (md : Int) (T : Nat → Rte) (x : Int) : Rte := if modB x = true then (x == md, []) else T x.toNat
def rtS (V : Nat → Int) (md : Int) (T : Nat → Rte) (p : Nat) : Rte := frR (btR (gR md T (V (p * 5 + 3))) (gR md T (V (p * 5 + 4)))) (p : Int)
def updT (T : Nat → Rte) (p : Nat) (r : Rte) (i : Nat) : Rte := if i = p then r else T i
def rtR (V : Nat → Int) (md : Int) : List Nat → Nat → Rte
  | [] => fun _ => (false, [])
  | p :: l => updT (rtR V md l) p (rtS V md (rtR V md l) p)
theorem updT_off (T : Nat → Rte) {p j : Nat} (x : Rte) (h : j ≠ p) : updT T p x j = T j := by unfold updT; rw [if_neg h]
theorem bt_one (a b : Rte) : btR a b = a ∨ btR a b = b := by unfold btR; split <;> simp
/-- What is so of each route in a table. -/
def RtG (M : Nat) (T : Nat → Rte) : Prop := ∀ i, (T i).2.length ≤ M ∧ ((T i).1 = true → ∃ r, (T i).2 = (i : Int) :: r) ∧ ((T i).1 = false → (T i).2 = [])
theorem gR_len {M : Nat} {md : Int} {T : Nat → Rte} (h : RtG M T) (x : Int) : (gR md T x).2.length ≤ M := by
  unfold gR
  split
  · simp
  · exact (h _).1
theorem rt_good (V : Nat → Int) (md : Int) : ∀ l : List Nat, RtG l.length (rtR V md l)
  | [], i => by simp [rtR]
  | p :: l, i => by
    have ih := rt_good V md l
    have eR : rtR V md (p :: l) i = if i = p then rtS V md (rtR V md l) p else rtR V md l i := rfl
    rw [eR]
    by_cases e : i = p
    · subst e
      rw [if_pos rfl]
      unfold rtS frR
      have hl : (btR (gR md (rtR V md l) (V (i * 5 + 3))) (gR md (rtR V md l) (V (i * 5 + 4)))).2.length ≤ l.length := by
        rcases bt_one (gR md (rtR V md l) (V (i * 5 + 3))) (gR md (rtR V md l) (V (i * 5 + 4))) with q | q <;> rw [q] <;> exact gR_len ih _
      by_cases q : (btR (gR md (rtR V md l) (V (i * 5 + 3))) (gR md (rtR V md l) (V (i * 5 + 4)))).1 = true
      · rw [if_pos q]
        exact ⟨by simp only [List.length_cons]; omega, fun _ => ⟨_, rfl⟩, fun q => by simp at q⟩
      · rw [if_neg q]
        exact ⟨by simp, fun q => by simp at q, fun _ => rfl⟩
    · rw [if_neg e]
      have := ih i
      exact ⟨by simp only [List.length_cons]; omega, this.2⟩
/-- The specification's table: how many steps there are. -/
def faN (r : Rte) : Int := if r.1 = true then (r.2.length : Int) else 0
def faX (md : Int) (F : Nat → Int) (X : Int) : Int := if X = md then 1 else if 0 ≤ X ∧ 0 < F X.toNat then F X.toNat + 1 else 0
def mnF (a b : Int) : Int := if 0 < b ∧ (a = 0 ∨ b < a) then b else a
theorem faX_is {M : Nat} {md X : Int} {T : Nat → Rte} {n p : Nat} (hg : RtG M T) (hm : -3 ≤ md ∧ md ≤ -1) (hX : (modB X = true ∧ -3 ≤ X ∧ X ≤ -1) ∨ (modB X = false ∧ (p : Int) + 1 ≤ X ∧ X ≤ (n : Int) - 1)) : faX md (fun i => faN (T i)) X = if (gR md T X).1 = true then ((gR md T X).2.length : Int) + 1 else 0 := by
  unfold faX gR
  rcases hX with ⟨m, q⟩ | ⟨m, q⟩
  · rw [if_pos m]
    by_cases e : X = md
    · subst e; simp
    · have e' : (X == md) = false := by simpa using e
      simp only [e', if_neg e]
      rw [if_neg (by omega)]
      simp
  · rw [if_neg (show ¬ X = md by omega), if_neg (show ¬ modB X = true by rw [m]; simp)]
    have g := hg X.toNat
    unfold faN
    by_cases e : (T X.toNat).1 = true
    · obtain ⟨r, hr⟩ := g.2.1 e
      simp only [e, if_true, hr, List.length_cons]
      rw [if_pos ⟨by omega, by push_cast; omega⟩]
    · have e' : (T X.toNat).1 = false := by simpa using e
      simp [e']
theorem far_step {md : Int} {a b : Rte} (p : Int) : faN (frR (btR a b) p) = mnF (if a.1 = true then (a.2.length : Int) + 1 else 0) (if b.1 = true then (b.2.length : Int) + 1 else 0) := by
  obtain ⟨a1, a2⟩ := a
  obtain ⟨b1, b2⟩ := b
  cases a1 <;> cases b1
  · simp [faN, frR, btR, mnF]
  · simp [faN, frR, btR, mnF]
  · simp [faN, frR, btR, mnF]
  · have hc : btR (true, a2) (true, b2) = (true, a2) ∧ a2.length ≤ b2.length ∨ btR (true, a2) (true, b2) = (true, b2) ∧ (b2.length < a2.length ∨ b2.length = a2.length) := by
      unfold btR caB
      by_cases e : b2.length = a2.length
      · cases q : ltL b2 a2
        · left; exact ⟨by simp [e, q], by omega⟩
        · right; exact ⟨by simp [e, q], .inr e⟩
      · by_cases q : b2.length < a2.length
        · right; exact ⟨by simp [e, q], .inl q⟩
        · left; exact ⟨by simp [e, q], by omega⟩
    rcases hc with ⟨e, q⟩ | ⟨e, q⟩
    · rw [e]
      simp [faN, frR, mnF]
      omega
    · rw [e]
      simp [faN, frR, mnF]
      omega
/-- Along the table: the next step. -/
def okX (F : Nat → Int) (n X : Int) : Bool := decide (0 ≤ X ∧ 1 < n ∧ F X.toNat = n - 1)
def nxX (F : Nat → Int) (n X y : Int) : Int := if okX F n X = true ∧ (y < 0 ∨ X < y) then X else y
theorem rt_keep {V : Nat → Int} {md : Int} {n : Nat} {hn : 0 < n} {k : Nat} : ∀ (d i : Nat), k + d ≤ n → n - k ≤ i → i < n → rtR V md (pls (dA n hn (k + d))) i = rtR V md (pls (dA n hn k)) i
  | 0, _, _, _, _ => rfl
  | d + 1, i, h1, h2, h3 => by
    rw [show k + (d + 1) = k + d + 1 by omega, dA_succ, pls_snoc]
    show updT (rtR V md (pls (dA n hn (k + d)))) (n - 1 - (k + d)) _ i = _
    rw [updT_off _ _ (by omega)]
    exact rt_keep d i (by omega) h2 h3
theorem rt_fix {V : Nat → Int} {md : Int} {n : Nat} (hn : 0 < n) (hp : planB n V = true) {p : Nat} (h : p < n) : rtR V md (pls (dA n hn n)) p = rtS V md (rtR V md (pls (dA n hn n))) p := by
  have e1 : rtR V md (pls (dA n hn n)) p = rtR V md (pls (dA n hn (n - 1 - p + 1))) p := by
    have := rt_keep (V := V) (md := md) (hn := hn) (k := n - 1 - p + 1) p p (by omega) (by omega) h
    rw [show n - 1 - p + 1 + p = n by omega] at this
    exact this
  have g : ∀ X : Int, ((modB X = true ∧ -3 ≤ X ∧ X ≤ -1) ∨ (modB X = false ∧ (p : Int) + 1 ≤ X ∧ X ≤ (n : Int) - 1)) → gR md (rtR V md (pls (dA n hn n))) X = gR md (rtR V md (pls (dA n hn (n - 1 - p)))) X := fun X hX => by
    unfold gR
    rcases hX with ⟨m, _⟩ | ⟨m, h1, h2⟩
    · rw [if_pos m, if_pos m]
    · rw [if_neg (by rw [m]; simp), if_neg (by rw [m]; simp)]
      have := rt_keep (V := V) (md := md) (hn := hn) (k := n - 1 - p) (p + 1) X.toNat (by omega) (by omega) (by omega)
      rw [show n - 1 - p + (p + 1) = n by omega] at this
      exact this
  rw [e1, dA_succ, pls_snoc]
  show updT _ (n - 1 - (n - 1 - p)) _ p = _
  unfold updT
  rw [if_pos (by omega)]
  show rtS V md (rtR V md (pls (dA n hn (n - 1 - p)))) (n - 1 - (n - 1 - p)) = _
  rw [show n - 1 - (n - 1 - p) = p by omega]
  unfold rtS
  rw [g _ (pln_to hp h 3 (.inl rfl)), g _ (pln_to hp h 4 (.inr rfl))]
theorem cand {M n p : Nat} {md X : Int} {T : Nat → Rte} {m : Nat} (hg : RtG M T) (hm : 0 < m) (hX : (modB X = true ∧ -3 ≤ X ∧ X ≤ -1) ∨ (modB X = false ∧ (p : Int) + 1 ≤ X ∧ X ≤ (n : Int) - 1)) : okX (fun i => faN (T i)) ((m : Int) + 1) X = true ↔ ((gR md T X).1 = true ∧ (gR md T X).2.length = m) := by
  unfold okX gR
  rw [decide_eq_true_iff]
  rcases hX with ⟨mo, q⟩ | ⟨mo, q⟩
  · rw [if_pos mo]
    simp
    constructor
    · intro h; omega
    · intro h; omega
  · rw [if_neg (by rw [mo]; simp)]
    have g := hg X.toNat
    unfold faN
    by_cases e : (T X.toNat).1 = true
    · simp only [e, if_true]
      constructor
      · intro h; exact ⟨trivial, by omega⟩
      · intro h; exact ⟨by omega, by omega, by omega⟩
    · have e' : (T X.toNat).1 = false := by simpa using e
      simp only [e', Bool.false_eq_true, if_false]
      constructor
      · intro h; omega
      · intro h; exact h.1.elim
theorem gR_head {M n p : Nat} {md X : Int} {T : Nat → Rte} (hg : RtG M T) (hX : (modB X = true ∧ -3 ≤ X ∧ X ≤ -1) ∨ (modB X = false ∧ (p : Int) + 1 ≤ X ∧ X ≤ (n : Int) - 1)) (h1 : (gR md T X).1 = true) (h2 : (gR md T X).2 ≠ []) : ∃ k : Nat, X = (k : Int) ∧ k < n ∧ gR md T X = T k ∧ ∃ r, (gR md T X).2 = X :: r := by
  rcases hX with ⟨mo, q⟩ | ⟨mo, q⟩
  · unfold gR at h2; rw [if_pos mo] at h2; exact absurd rfl h2
  · have e : gR md T X = T X.toNat := by unfold gR; rw [if_neg (by rw [mo]; simp)]
    rw [e] at h1 ⊢
    obtain ⟨r, hr⟩ := (hg X.toNat).2.1 h1
    exact ⟨X.toNat, by omega, by omega, rfl, r, by rw [hr]; congr 1; omega⟩
/-- The next step along a route is the first of its rest. -/
theorem next_is {M n p : Nat} {md X3 X4 : Int} {T : Nat → Rte} (hg : RtG M T) (h3 : (modB X3 = true ∧ -3 ≤ X3 ∧ X3 ≤ -1) ∨ (modB X3 = false ∧ (p : Int) + 1 ≤ X3 ∧ X3 ≤ (n : Int) - 1)) (h4 : (modB X4 = true ∧ -3 ≤ X4 ∧ X4 ≤ -1) ∨ (modB X4 = false ∧ (p : Int) + 1 ≤ X4 ∧ X4 ≤ (n : Int) - 1)) {r : List Int} (hr : btR (gR md T X3) (gR md T X4) = (true, r)) (hne : r ≠ []) :
    ∃ k : Nat, k < n ∧ nxX (fun i => faN (T i)) ((r.length : Int) + 1) X4 (nxX (fun i => faN (T i)) ((r.length : Int) + 1) X3 (-9)) = (k : Int) ∧ T k = (true, r) := by
  have hl : 0 < r.length := List.length_pos_iff.2 hne
  have c3 := cand (md := md) hg hl h3
  have c4 := cand (md := md) hg hl h4
  unfold btR at hr
  by_cases hb : ((gR md T X4).1 && (!(gR md T X3).1 || caB (gR md T X4).2 (gR md T X3).2)) = true
  · rw [if_pos hb] at hr
    have b1 : (gR md T X4).1 = true := by rw [hr]
    have b2 : (gR md T X4).2 = r := by rw [hr]
    obtain ⟨k, ek, kn, eT, r', er⟩ := gR_head hg h4 b1 (by rw [b2]; exact hne)
    refine ⟨k, kn, ?_, by rw [← eT, hr]⟩
    have o4 := c4.2 ⟨b1, by rw [b2]⟩
    unfold nxX
    by_cases o3 : okX (fun i => faN (T i)) ((r.length : Int) + 1) X3 = true
    · obtain ⟨a1, a2⟩ := c3.1 o3
      obtain ⟨k3, ek3, -, -, r3, er3⟩ := gR_head hg h3 a1 (by intro q; rw [q] at a2; simp at a2; omega)
      rw [a1, b1] at hb
      have hlt : ltL (gR md T X4).2 (gR md T X3).2 = true := by
        have : caB (gR md T X4).2 (gR md T X3).2 = true := by simpa using hb
        unfold caB at this
        rw [if_pos (by rw [a2, b2])] at this
        exact this
      rw [er, er3] at hlt
      unfold ltL at hlt
      have hle : X4 ≤ X3 := by
        by_cases q : X4 < X3
        · omega
        · rw [if_neg q] at hlt
          by_cases q2 : X3 < X4
          · rw [if_pos q2] at hlt; simp at hlt
          · omega
      rw [if_pos (show okX _ _ X3 = true ∧ ((-9 : Int) < 0 ∨ X3 < -9) from ⟨o3, .inl (by omega)⟩)]
      by_cases q : X4 < X3
      · rw [if_pos ⟨o4, .inr q⟩]; exact ek
      · rw [if_neg (by intro h; omega)]; omega
    · rw [if_neg (show ¬ (okX _ _ X3 = true ∧ ((-9 : Int) < 0 ∨ X3 < -9)) from fun h => o3 h.1), if_pos ⟨o4, .inl (by omega)⟩]
      exact ek
  · rw [if_neg hb] at hr
    have a1 : (gR md T X3).1 = true := by rw [hr]
    have a2 : (gR md T X3).2 = r := by rw [hr]
    obtain ⟨k, ek, kn, eT, r', er⟩ := gR_head hg h3 a1 (by rw [a2]; exact hne)
    refine ⟨k, kn, ?_, by rw [← eT, hr]⟩
    have o3 := c3.2 ⟨a1, by rw [a2]⟩
    unfold nxX
    rw [if_pos (show okX _ _ X3 = true ∧ ((-9 : Int) < 0 ∨ X3 < -9) from ⟨o3, .inl (by omega)⟩)]
    rw [if_neg, ek]
    rintro ⟨o4, q⟩
    obtain ⟨b1, b2⟩ := c4.1 o4
    obtain ⟨k4, ek4, -, -, r4, er4⟩ := gR_head hg h4 b1 (by intro q; rw [q] at b2; simp at b2; omega)
    apply hb
    rw [b1, a1]
    have : X4 < X3 := by omega
    unfold caB
    rw [if_pos (by rw [a2, b2]), er, er4]
    unfold ltL
    rw [if_pos this]
    rfl
/-- What Shortest answers. -/
def shV (n : Nat) (V : Nat → Int) (md : Int) : List Int := if h : planB n V = true ∧ modB md = true then (rtR V md (pls (dA n (Nat.lt_of_lt_of_le Nat.zero_lt_one (plan_yes h.1).1) n)) 0).2 else []
theorem shV_yes {n : Nat} {V : Nat → Int} {md : Int} (h : planB n V = true) (h1 : modB md = true) (hn : 0 < n) : shV n V md = (rtR V md (pls (dA n hn n)) 0).2 := by unfold shV; rw [dif_pos ⟨h, h1⟩]
theorem shV_no {n : Nat} {V : Nat → Int} {md : Int} (h : ¬ (planB n V = true ∧ modB md = true)) : shV n V md = [] := by unfold shV; rw [dif_neg h]
end Go.Proofs.Ytlkegoofpmgcjaa
