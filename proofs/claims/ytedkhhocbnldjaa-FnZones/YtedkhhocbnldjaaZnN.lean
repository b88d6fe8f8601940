/-
What is proved: a zone of the double radius sees what the zone sees; the time that is told is that of a zone that sees.
-/
import Derived.Test.YtedkhhocbnldjaaSgM
import Derived.Test.YtedkhhocbnldjaaDs
namespace Go.Proofs.Ytedkhhocbnldjaa
set_option maxRecDepth 40000
open Go.ChangeShapes Go.WideShapes Go.ChangeAt Go.RowKit
set_option linter.unusedVariables false
set_option linter.unusedSimpArgs false

theorem lz_at (C E R : Nat → Nat) (T : Nat → Int) (a b g d : Option Nat) : ∀ n, lzV C E R T a b g d n < 0 ∨ ∃ k, k < n ∧ snB C E R T a b g d k = true ∧ T k = lzV C E R T a b g d n
  | 0 => by left; show (-1 : Int) < 0; omega
  | n + 1 => by
    unfold lzV
    split
    · rename_i h
      right
      simp only [Bool.and_eq_true] at h
      exact ⟨n, by omega, h.1, rfl⟩
    · rcases lz_at C E R T a b g d n with h | ⟨k, h1, h2, h3⟩
      · exact .inl h
      · exact .inr ⟨k, by omega, h2, h3⟩
theorem ds_at (C E R : Nat → Nat) (T : Nat → Int) (a b g d : Option Nat) (n : Nat) : dsV C E R T a b g d n < 0 ∨ ∃ k, k < n ∧ snB C E R T a b g d k = true ∧ T k = dsV C E R T a b g d n := by
  unfold dsV
  split
  · exact lz_at C E R T a b g d n
  · left; omega
def TWW : Nat := 4611686018427387904
theorem two_parts : TWW = FloatKind.f64.format.word false TWW ∧ TWW < INF := by decide
theorem ge_key {r : Nat} (h : rg r ≤ INF) : geZ r = true ↔ 0 ≤ key r := by
  unfold geZ
  rw [order_key h (by decide : rg 0 ≤ INF)]
  have k0 : key 0 = 0 := by decide
  rw [k0]
  rcases Int.lt_trichotomy (key r) 0 with q | q | q
  · rw [show compare (key r) 0 = .lt from Int.compare_eq_lt.2 q]
    constructor
    · intro h; exact absurd h (by decide)
    · intro h; omega
  · rw [q]
    constructor
    · intro _; omega
    · intro _; decide
  · rw [show compare (key r) 0 = .gt from Int.compare_eq_gt.2 q]
    constructor
    · intro _; omega
    · intro _; decide
theorem le_key {x y : Nat} (hx : rg x ≤ INF) (hy : rg y ≤ INF) : leO (some x) (some y) = true ↔ key x ≤ key y := by
  show (FloatKind.f64.format.order x y == some .lt || FloatKind.f64.format.order x y == some .eq) = true ↔ _
  rw [order_key hx hy]
  rcases Int.lt_trichotomy (key x) (key y) with q | q | q
  · rw [show compare (key x) (key y) = .lt from Int.compare_eq_lt.2 q]
    constructor
    · intro _; omega
    · intro _; decide
  · rw [show compare (key x) (key y) = .eq from Int.compare_eq_eq.2 q]
    constructor
    · intro _; omega
    · intro _; decide
  · rw [show compare (key x) (key y) = .gt from Int.compare_eq_gt.2 q]
    constructor
    · intro h; exact absurd h (by decide)
    · intro h; omega
theorem sq_of {r : Nat} (lr : r < 18446744073709551616) (h : rg r < INF) : fRun .mul r r = some (FloatKind.f64.format.word false (rn (mg (rg r) * mg (rg r)) (-1074 + (kg (rg r) : Int) + (-1074 + (kg (rg r) : Int))))) := by
  have e := fmul_num (s := sg r) (t := sg r) h h
  rw [← word_self lr, Bool.xor_self] at e
  exact e
theorem sq_mono {a b : Nat} (h : a ≤ b) : rn (mg a * mg a) (-1074 + (kg a : Int) + (-1074 + (kg a : Int))) ≤ rn (mg b * mg b) (-1074 + (kg b : Int) + (-1074 + (kg b : Int))) := by
  have l := leV_vl h
  have l1 := rn_le (leV_mul (mg a) (-1074 + (kg a : Int)) l)
  have l2 := rn_le (leV_mul (mg b) (-1074 + (kg b : Int)) l)
  rw [Nat.mul_comm (mg b) (mg a), Int.add_comm (-1074 + (kg b : Int)) (-1074 + (kg a : Int))] at l2
  exact Nat.le_trans l1 l2
theorem dbl_of {r r2 : Nat} (lr : r < 18446744073709551616) (h : rg r < INF) (e : fRun .mul TWW r = some r2) : sg r2 = sg r ∧ rg r ≤ rg r2 := by
  have f := fmul_num (s := false) (t := sg r) two_parts.2 h
  rw [← two_parts.1, ← word_self lr, Bool.false_xor, e] at f
  injection f with f
  have p := wd_parts (sg r) (rn_inf (mg TWW * mg (rg r)) (-1074 + (kg TWW : Int) + (-1074 + (kg (rg r) : Int))))
  rw [← f] at p
  refine ⟨p.2, ?_⟩
  rw [p.1]
  have l : leV (mg (rg r)) (-1074 + (kg (rg r) : Int)) (mg TWW * mg (rg r)) (-1074 + (kg TWW : Int) + (-1074 + (kg (rg r) : Int))) := by
    have l0 : leV 1 0 (mg TWW) (-1074 + (kg TWW : Int)) := by unfold leV; decide
    have := leV_mul (mg (rg r)) (-1074 + (kg (rg r) : Int)) l0
    rw [Nat.mul_one, Int.add_zero, Nat.mul_comm, Int.add_comm (-1074 + (kg (rg r) : Int))] at this
    exact this
  have := rn_le l
  rw [rn_mg h] at this
  exact this
theorem norm_fin {a b : Option Nat} {v : Nat} (h : normO a b = some v) : rg v ≤ INF := by
  unfold normO at h
  cases ha : opO .mul a a with
  | none => rw [ha] at h; cases h
  | some p =>
    cases hb : opO .mul b b with
    | none => rw [ha, hb] at h; cases h
    | some q => rw [ha, hb] at h; exact (fRun_fin (f := .add) rfl (x := p) (y := q) h).1
/-- A zone of the double radius sees what the zone sees. -/
theorem sees_dbl {c e r r2 : Nat} {t : Int} {N : Option Nat} {a b : Option Nat} (hN : N = normO a b) (lr : r < 18446744073709551616) (hs : (zoneB c e r t && leO N (opO .mul (ofW r) (ofW r))) = true) (h2 : Fl r2 (opO .mul (some TWW) (ofW r))) (hk : knownB r2 = true) : (zoneB c e r2 t && leO N (opO .mul (ofW r2) (ofW r2))) = true := by
  simp only [Bool.and_eq_true] at hs
  obtain ⟨hz, hl⟩ := hs
  have hz0 := hz
  unfold zoneB at hz
  simp only [Bool.and_eq_true] at hz
  obtain ⟨z1, z2, z3, z4, z5⟩ := hz
  have hr : rg r < INF := of_decide_eq_true z3
  have hr2 : rg r2 < INF := of_decide_eq_true hk
  have er : ofW r = some r := by unfold ofW; rw [if_neg (by omega)]
  have er2 : ofW r2 = some r2 := by unfold ofW; rw [if_neg (by omega)]
  rw [er] at hl h2
  rw [er2]
  have em : fRun .mul TWW r = some r2 := by
    rcases h2.2 with ⟨_, q⟩ | ⟨q, _⟩
    · exact q
    · omega
  obtain ⟨d1, d2⟩ := dbl_of lr hr em
  have g1 := (ge_key (Nat.le_of_lt hr)).1 z4
  have g2 : geZ r2 = true := (ge_key (Nat.le_of_lt hr2)).2 (by
    unfold key at g1 ⊢
    rw [d1]
    by_cases q : sg r = true
    · rw [if_pos q] at g1 ⊢
      have e0 : rg r = 0 := by omega
      have f := fmul_num (s := false) (t := sg r) two_parts.2 hr
      rw [← two_parts.1, ← word_self lr, em] at f
      injection f with f
      have p := (wd_parts (false ^^ sg r) (rn_inf (mg TWW * mg (rg r)) (-1074 + (kg TWW : Int) + (-1074 + (kg (rg r) : Int))))).1
      rw [← f, e0] at p
      have m0 : mg 0 = 0 := by decide
      rw [m0, Nat.mul_zero, rn_zero] at p
      omega
    · rw [if_neg q]; omega)
  rw [Bool.and_eq_true]
  refine ⟨by unfold zoneB; rw [z1, z2, hk, g2, z5]; rfl, ?_⟩
  have s1 : opO .mul (some r) (some r) = some _ := sq_of lr hr
  have s2 : opO .mul (some r2) (some r2) = some _ := sq_of h2.1 hr2
  rw [s1] at hl
  rw [s2]
  cases hv : N with
  | none => rw [hv] at hl; cases hl
  | some v =>
    rw [hv] at hl
    have fv : rg v ≤ INF := norm_fin (hN.symm.trans hv)
    have w1 := wd_parts false (rn_inf (mg (rg r) * mg (rg r)) (-1074 + (kg (rg r) : Int) + (-1074 + (kg (rg r) : Int))))
    have w2 := wd_parts false (rn_inf (mg (rg r2) * mg (rg r2)) (-1074 + (kg (rg r2) : Int) + (-1074 + (kg (rg r2) : Int))))
    have i1 := rn_inf (mg (rg r) * mg (rg r)) (-1074 + (kg (rg r) : Int) + (-1074 + (kg (rg r) : Int)))
    have i2 := rn_inf (mg (rg r2) * mg (rg r2)) (-1074 + (kg (rg r2) : Int) + (-1074 + (kg (rg r2) : Int)))
    have k1 := (le_key fv (by rw [w1.1]; exact i1)).1 hl
    refine (le_key fv (by rw [w2.1]; exact i2)).2 (Int.le_trans k1 ?_)
    rw [key_word false i1, key_word false i2]
    have := sq_mono d2
    simp only [Bool.false_eq_true, if_false]
    omega
end Go.Proofs.Ytedkhhocbnldjaa
